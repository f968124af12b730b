/- The laws of chapter 16: StartAlone. How an Init is read. -/
import Derived.Test.YtelbefihigkhjaaGreatDoorWa46
import Derived.Test.YtelbefihigkhjaaGreatDoorWa49
import Derived.Test.YtelbefihigkhjaaGreatDoorWa47
namespace Go.Proofs.YtelbefihigkhjaaGreatDoor
open Go.ChangeShapes Go.WideShapes Go.ChangeAt Go.RowKit
set_option maxHeartbeats 16000000
set_option maxRecDepth 100000
set_option linter.unusedVariables false
set_option linter.unusedSimpArgs false
theorem alone_out (ki1 ro1 co1 wi1 va1 vb1 ki2 ro2 co2 wi2 va2 vb2 seed place : Int) (hp : place < 0 ∨ 5 < place) (l1 l2 : Bool) (w : World)
  (KA : Hid (∀ u,Kept w u → Calls Tryz.prog 9 #[] u fun e w' => e = .returned (.bool true) ∧ Kept u w'))
  (KL1 : Hid (∀ u,Calls Tryz.prog 10 #[.agg #[.int .i64 ki1,.int .i64 ro1,.int .i64 co1,.int .i64 wi1,.int .i64 va1,.int .i64 vb1]] u fun e w' => e = .returned (.bool l1) ∧ Kept u w'))
  (KL2 : Hid (∀ u,Calls Tryz.prog 10 #[.agg #[.int .i64 ki2,.int .i64 ro2,.int .i64 co2,.int .i64 wi2,.int .i64 va2,.int .i64 vb2]] u fun e w' => e = .returned (.bool l2) ∧ Kept u w')) :
  Calls Tryz.prog 7 #[.agg #[.int .i64 ki1,.int .i64 ro1,.int .i64 co1,.int .i64 wi1,.int .i64 va1,.int .i64 vb1],.agg #[.int .i64 ki2,.int .i64 ro2,.int .i64 co2,.int .i64 wi2,.int .i64 va2,.int .i64 vb2],.int .i64 seed,.int .i64 place] w fun e w' => e = .returned (.bool true) ∧ Kept w w':=by
 obtain ⟨X,hX⟩ : ∃ X,X = (w.alloc (.cells #[.int .i64 ki1,.int .i64 ro1,.int .i64 co1,.int .i64 wi1,.int .i64 va1,.int .i64 vb1] 23)).alloc (.cells #[.int .i64 ki2,.int .i64 ro2,.int .i64 co2,.int .i64 wi2,.int .i64 va2,.int .i64 vb2] 23):=⟨_,rfl⟩
 obtain ⟨B0,hB0⟩ : ∃ B,B = w.heap.size:=⟨_,rfl⟩
 obtain ⟨B1,hB1⟩ : ∃ B,B = B0 + 1:=⟨_,rfl⟩
 have hK : Kept w X:=by rw [hX]; exact ((Kept.refl w).alloc _ _).alloc _ _
 have hP0 : Q6 X B0 (.int .i64 ki1) (.int .i64 ro1) (.int .i64 co1) (.int .i64 wi1) (.int .i64 va1) (.int .i64 vb1):=by rw [hX,hB0]; exact (Q6.new w _ _ _ _ _ _ _).alloc _ _
 have hP1 : Q6 X B1 (.int .i64 ki2) (.int .i64 ro2) (.int .i64 co2) (.int .i64 wi2) (.int .i64 va2) (.int .i64 vb2):=by
  rw [hX,hB1,hB0]
  have:=Q6.new (w.alloc (.cells #[.int .i64 ki1,.int .i64 ro1,.int .i64 co1,.int .i64 wi1,.int .i64 va1,.int .i64 vb1] 23)) (.int .i64 ki2) (.int .i64 ro2) (.int .i64 co2) (.int .i64 wi2) (.int .i64 va2) (.int .i64 vb2) 23
  simpa using this
 have HP0 : Hid (∀ u,Kept X u → Q6 u B0 (.int .i64 ki1) (.int .i64 ro1) (.int .i64 co1) (.int .i64 wi1) (.int .i64 va1) (.int .i64 vb1)):=fun u k => hP0.kept k
 have HP1 : Hid (∀ u,Kept X u → Q6 u B1 (.int .i64 ki2) (.int .i64 ro2) (.int .i64 co2) (.int .i64 wi2) (.int .i64 va2) (.int .i64 vb2)):=fun u k => hP1.kept k
 clear hP0 hP1
 have HPL : Hid (place < 0 ∨ 5 < place):=hp
 clear hp
 go_enter Tryz.func7,Tryz.ntmps7
 go_upto_region 1 with fail
 rw [← hX,← hB0,← hB1]
 clear hX hB0 hB1
 go_wp2_with fail
 refine (KA.out _ hK).mono ?_
 rintro e w1 ⟨rfl,k1⟩
 obtain ⟨p0,p1,p2,p3,p4,p5⟩:=HP0.out _ k1
 go_wp2_with fail
 refine (KL1.out _).mono ?_
 rintro e w2 ⟨rfl,k2⟩
 clear p0 p1 p2 p3 p4 p5
 have k12:=k1.trans k2
 clear k1 k2
 cases l1
 ·go_wp2_with fail
  refine (KA.out _ (hK.trans k12)).mono ?_
  rintro e w9 ⟨rfl,k9⟩
  go_wp2_with fail
  go_ret
  exact ⟨rfl,(hK.trans k12).trans k9⟩
 obtain ⟨r0,r1,r2,r3,r4,r5⟩:=HP1.out _ k12
 go_wp2_with fail
 refine (KL2.out _).mono ?_
 rintro e w3 ⟨rfl,k3⟩
 clear r0 r1 r2 r3 r4 r5
 have k13:=k12.trans k3
 clear k12 k3
 cases l2
 ·go_wp2_with fail
  refine (KA.out _ (hK.trans k13)).mono ?_
  rintro e w9 ⟨rfl,k9⟩
  go_wp2_with fail
  go_ret
  exact ⟨rfl,(hK.trans k13).trans k9⟩
 by_cases h0 : place < 0
 ·have t0 : decide (place < 0) = true:=decide_eq_true h0
  go_wp2_with fail
  refine (KA.out _ (hK.trans k13)).mono ?_
  rintro e w9 ⟨rfl,k9⟩
  go_wp2_with fail
  go_ret
  exact ⟨rfl,(hK.trans k13).trans k9⟩
 have t0 : decide (place < 0) = false:=decide_eq_false h0
 have h5 : 5 < place:=by have:=HPL.out; omega
 have t1 : decide (place > 5) = true:=decide_eq_true h5
 have t2 : decide (5 < place) = true:=decide_eq_true h5
 go_wp2_with fail
 refine (KA.out _ (hK.trans k13)).mono ?_
 rintro e w9 ⟨rfl,k9⟩
 go_wp2_with fail
 go_ret
 exact ⟨rfl,(hK.trans k13).trans k9⟩
theorem alone_in (ki1 ro1 co1 wi1 va1 vb1 ki2 ro2 co2 wi2 va2 vb2 seed : Int) (P : Nat) (hP : P ≤ 5) (ki ro co wi va vb : Nat → Int) (kiP : ki P = ki1) (roP : ro P = ro1) (coP : co P = co1) (wiP : wi P = wi1) (vaP : va P = va1) (vbP : vb P = vb1) (kiO : ∀ i,i ≠ P → ki i = ki2) (roO : ∀ i,i ≠ P → ro i = ro2) (coO : ∀ i,i ≠ P → co i = co2) (wiO : ∀ i,i ≠ P → wi i = wi2) (vaO : ∀ i,i ≠ P → va i = va2) (vbO : ∀ i,i ≠ P → vb i = vb2) (W : World) (hT : Tab W) (ra : ∀ i,-9223372036854775808 ≤ va i ∧ va i ≤ 9223372036854775807) (rb : ∀ i,-9223372036854775808 ≤ vb i ∧ vb i ≤ 9223372036854775807) : Calls Tryz.prog 7 #[.agg #[.int .i64 ki1,.int .i64 ro1,.int .i64 co1,.int .i64 wi1,.int .i64 va1,.int .i64 vb1],.agg #[.int .i64 ki2,.int .i64 ro2,.int .i64 co2,.int .i64 wi2,.int .i64 va2,.int .i64 vb2],.int .i64 seed,.int .i64 (P : Int)] W fun e w' => e = .returned (.bool true) ∧ Kept W w':=by
 have h:=fun i : Nat => make_any (ki i) (ro i) (co i) (wi i) (va i) (vb i) seed (i : Int) (ra i) (rb i)
 obtain ⟨q,N,M,hh⟩ : ∃ (q : Nat → Int) (N : Nat → Nat) (M : Nat → List Int),∀ i : Nat,(M i).length = N i ∧ N i ≤ 4096 ∧ ∀ w,Tab w → Calls Tryz.prog 11 #[initV (ki i) (ro i) (co i) (wi i) (va i) (vb i),.int .i64 seed,.int .i64 (i : Int)] w fun e w' => MkA (q i) (ro i) (co i) (wi i) (N i) (M i) w e w':=⟨fun i => (h i).choose,fun i => (h i).choose_spec.choose,fun i => (h i).choose_spec.choose_spec.choose,fun i => (h i).choose_spec.choose_spec.choose_spec⟩
 clear h
 obtain ⟨E,hE,h0,h1⟩ : ∃ E,E ≤ P + 2 ∧ (∀ i,i < E → q i = 0) ∧ (E < P + 2 → (q E == 0) = false):=by
  obtain ⟨f1,f2,f3⟩:=fine_spec (fun i => if q i = 0 then 0 else 3) (P + 2)
  refine ⟨_,f1,fun i hi => ?_,fun hi => ?_⟩
  ·have:=f2 i hi
   by_cases h : q i = 0
   ·exact h
   ·simp [h] at this
  ·have:=f3 hi
   rw [beq_eq_false_iff_ne]
   intro h
   simp [h] at this
 have KA : ∀ u,Kept W u → Calls Tryz.prog 9 #[] u fun e w' => e = .returned (.bool true) ∧ Kept u w':=fun u k => alive16 u (hT.kept k)
 have K1:=fun u => light_any ki1 ro1 co1 wi1 va1 vb1 u
 have K2:=fun u => light_any ki2 ro2 co2 wi2 va2 vb2 u
 have fo : ∀ i,i ≠ P → sx ki ro co wi va vb i = [.int .i64 ki2,.int .i64 ro2,.int .i64 co2,.int .i64 wi2,.int .i64 va2,.int .i64 vb2]:=fun i hi => by simp [sx,kiO i hi,roO i hi,coO i hi,wiO i hi,vaO i hi,vbO i hi]
 have fx : sx ki ro co wi va vb P = [.int .i64 ki1,.int .i64 ro1,.int .i64 co1,.int .i64 wi1,.int .i64 va1,.int .i64 vb1]:=by simp [sx,kiP,roP,coP,wiP,vaP,vbP]
 have hx:=(hh P).2.2
 rw [kiP,roP,coP,wiP,vaP,vbP] at hx
 have KAL:=fun u ao cap (k : Kept W u) (hI : Ins u ao (P + 2) ki ro co wi va vb) => all_walk ao (P + 2) cap E seed (by omega) ki ro co wi va vb q N M u hI hE h0 h1 (fun i u' hi k' => (hh i).2.2 u' (hT.kept (k.trans k')))
 cases hq : (q P == 0)
 ·refine alone_walk ki1 ro1 co1 wi1 va1 vb1 ki2 ro2 co2 wi2 va2 vb2 seed P hP _ _ (q P) 0 0 0 0 (fun _ pp => pp = none) ki ro co wi va vb W fo fx (fun _ _ _ h _ => h) KA K1 K2 (fun u k => (hx u (hT.kept k)).mono ?_) (fun u ao cap k hI => (KAL u ao cap k hI).mono ?_) (fun u v v' h h' => ?_)
  ·rintro e w' ⟨k',⟨h0,-⟩ | ⟨-,he⟩⟩
   ·rw [h0] at hq; exact absurd hq (by decide)
   ·exact ⟨none,he,rfl,k'⟩
  ·rintro e w' ⟨k',⟨hEn,-⟩ | ⟨hEn,he⟩⟩
   ·rw [h0 P (by omega)] at hq; exact absurd hq (by decide)
   ·exact ⟨k',.inr ⟨E,q E,by have:=h1 hEn; simpa using this,fun e => by rw [e],he⟩⟩
  ·rw [h,h']
   exact same_nil u
 ·have hq : q P = 0:=by simpa using hq
  refine alone_walk ki1 ro1 co1 wi1 va1 vb1 ki2 ro2 co2 wi2 va2 vb2 seed P hP _ _ (q P) ro1 co1 wi1 (N P) (fun u pp => ∃ g,pp = some ⟨g,0,none⟩ ∧ Own u g (N P) (M P)) ki ro co wi va vb W fo fx (fun u u' v h k => ?_) KA K1 K2 (fun u k => (hx u (hT.kept k)).mono ?_) (fun u ao cap k hI => (KAL u ao cap k hI).mono ?_) (fun u v v' h h' => ?_)
  ·obtain ⟨g,rfl,ho⟩:=h
   exact ⟨g,rfl,ho.kept k⟩
  ·rintro e w' ⟨k',⟨-,g,he,-,ho⟩ | ⟨h0,-⟩⟩
   ·exact ⟨_,by rw [hq]; exact he,⟨g,rfl,ho⟩,k'⟩
   ·rw [hq] at h0; exact absurd h0 (by decide)
  ·rintro e w' ⟨k',⟨hEn,hb,he,hA⟩ | ⟨hEn,he⟩⟩
   ·obtain ⟨g,-,-,-,-,-,ho⟩:=hA.el P (by omega)
    obtain ⟨g,g0,c0,c1,c2,c3,ho⟩:=hA.el P (by omega)
    rw [roP] at c0
    rw [coP] at c1
    rw [wiP] at c2
    exact ⟨k',.inl ⟨hq,hb,_,he,⟨g,rfl,ho⟩,fun u ku => ⟨(ku.below.cell (p:=⟨hb,P * 4,none⟩) hA.lt).trans c0,(ku.below.cell (p:=⟨hb,P * 4 + 1,none⟩) hA.lt).trans c1,(ku.below.cell (p:=⟨hb,P * 4 + 2,none⟩) hA.lt).trans c2,(ku.below.cell (p:=⟨hb,P * 4 + 3,none⟩) hA.lt).trans c3⟩⟩⟩
   ·exact ⟨k',.inr ⟨E,q E,by have:=h1 hEn; simpa using this,fun e => by rw [e],he⟩⟩
  ·obtain ⟨g,rfl,ho⟩:=h
   obtain ⟨g',rfl,ho'⟩:=h'
   exact same_walk ro1 co1 wi1 (N P) (by have:=(hh P).2.1; omega) (M P) (hh P).1 g' g u ho' ho
theorem startAlone_true (W : World) (hT : Tab W) (ki1 ro1 co1 wi1 va1 vb1 ki2 ro2 co2 wi2 va2 vb2 seed place : Int) (w1 : (Lit.int .i64 va1).wf = true) (w2 : (Lit.int .i64 vb1).wf = true) (w3 : (Lit.int .i64 va2).wf = true) (w4 : (Lit.int .i64 vb2).wf = true) : Calls Tryz.prog 7 #[.agg #[.int .i64 ki1,.int .i64 ro1,.int .i64 co1,.int .i64 wi1,.int .i64 va1,.int .i64 vb1],.agg #[.int .i64 ki2,.int .i64 ro2,.int .i64 co2,.int .i64 wi2,.int .i64 va2,.int .i64 vb2],.int .i64 seed,.int .i64 place] W fun e w' => e = .returned (.bool true) ∧ Kept W w':=by
 have w1:=wf_rng _ w1
 have w2:=wf_rng _ w2
 have w3:=wf_rng _ w3
 have w4:=wf_rng _ w4
 by_cases hp : place < 0 ∨ 5 < place
 ·exact alone_out ki1 ro1 co1 wi1 va1 vb1 ki2 ro2 co2 wi2 va2 vb2 seed place hp _ _ W (fun u k => alive16 u (hT.kept k)) (fun u => light_any ki1 ro1 co1 wi1 va1 vb1 u) (fun u => light_any ki2 ro2 co2 wi2 va2 vb2 u)
 ·obtain ⟨P,rfl⟩ : ∃ P : Nat,place = (P : Int):=⟨place.toNat,by omega⟩
  exact alone_in ki1 ro1 co1 wi1 va1 vb1 ki2 ro2 co2 wi2 va2 vb2 seed P (by omega) (fun i => if i = P then ki1 else ki2) (fun i => if i = P then ro1 else ro2) (fun i => if i = P then co1 else co2) (fun i => if i = P then wi1 else wi2) (fun i => if i = P then va1 else va2) (fun i => if i = P then vb1 else vb2) (if_pos rfl) (if_pos rfl) (if_pos rfl) (if_pos rfl) (if_pos rfl) (if_pos rfl) (fun i h => if_neg h) (fun i h => if_neg h) (fun i h => if_neg h) (fun i h => if_neg h) (fun i h => if_neg h) (fun i h => if_neg h) W hT (fun i => by split <;> assumption) (fun i => by split <;> assumption)
end Go.Proofs.YtelbefihigkhjaaGreatDoor

namespace Go.Proofs.YtelbefihigkhjaaGreatDoor
open Go.ChangeShapes Go.WideShapes Go.ChangeAt Go.RowKit Go.Joins
set_option maxHeartbeats 16000000
set_option maxRecDepth 100000
set_option linter.unusedVariables false
set_option linter.unusedSimpArgs false
theorem cells_init : Tryz.prog.cellsOf 23 = 6:=by kernel_rfl
section
variable {H : Type} {enc : TypeId × Value → H} {W : World}
theorem array6j {cs : Array Value} (h : cs.size = 6) : ∃ c0 c1 c2 c3 c4 c5,cs = #[c0,c1,c2,c3,c4,c5]:=by
 obtain ⟨l⟩:=cs
 match l,h with
 | [c0,c1,c2,c3,c4,c5],_ => exact ⟨c0,c1,c2,c3,c4,c5,rfl⟩
theorem open_init {b0 : Nat} {v : Value} {d : DataW H} {p : List MemPlace} (hv : Value.okWide Tryz.prog W .any b0 23 v) (h : DataW.Trod enc Tryz.prog W 0 (fun _ => true) true 23 v d p) :
  ∃ (k r c n a b : Int),v = .agg #[.int .i64 k,.int .i64 r,.int .i64 c,.int .i64 n,.int .i64 a,.int .i64 b] ∧ (Lit.int .i64 a).wf = true ∧ (Lit.int .i64 b).wf = true:=by
 obtain ⟨cs,rfl,hsz⟩:=okWide_struct Tryz.underlying23 hv
 obtain ⟨c0,c1,c2,c3,c4,c5,rfl⟩:=array6j (hsz.trans cells_init)
 obtain ⟨fuel,hf⟩:=h
 obtain ⟨xs,n,-,-,-,hlen,hg⟩:=DataW.trod_struct Tryz.underlying23 hf
 match xs,hlen with
 | [y0,y1,y2,y3,y4,y5],_ =>
  have h0 := hg 0 { name := "Kind", type := 3, offset := 0, embedded := false, tag := "", pkgPath := "", byteOffset := 0 } rfl
  have h1 := hg 1 { name := "Rows", type := 3, offset := 1, embedded := false, tag := "", pkgPath := "", byteOffset := 8 } rfl
  have h2 := hg 2 { name := "Cols", type := 3, offset := 2, embedded := false, tag := "", pkgPath := "", byteOffset := 16 } rfl
  have h3 := hg 3 { name := "Width", type := 3, offset := 3, embedded := false, tag := "", pkgPath := "", byteOffset := 24 } rfl
  have h4 := hg 4 { name := "A", type := 3, offset := 4, embedded := false, tag := "", pkgPath := "", byteOffset := 32 } rfl
  have h5 := hg 5 { name := "B", type := 3, offset := 5, embedded := false, tag := "", pkgPath := "", byteOffset := 40 } rfl
  simp only [Value.cells,cells_int,List.drop_zero,List.drop_succ_cons,List.take_succ_cons,List.take_zero,List.getElem?_cons_zero,List.getElem?_cons_succ] at h0 h1 h2 h3 h4 h5
  obtain ⟨x0,e0,-,w0⟩:=DataW.trod_int Tryz.underlying3 h0
  obtain ⟨x1,e1,-,w1⟩:=DataW.trod_int Tryz.underlying3 h1
  obtain ⟨x2,e2,-,w2⟩:=DataW.trod_int Tryz.underlying3 h2
  obtain ⟨x3,e3,-,w3⟩:=DataW.trod_int Tryz.underlying3 h3
  obtain ⟨x4,e4,-,w4⟩:=DataW.trod_int Tryz.underlying3 h4
  obtain ⟨x5,e5,-,w5⟩:=DataW.trod_int Tryz.underlying3 h5
  simp only [Value.cells,cells_int,List.drop_zero,List.drop_succ_cons,List.take_succ_cons,List.take_zero,List.cons.injEq,and_true] at e0 e1 e2 e3 e4 e5
  subst e0 e1 e2 e3 e4 e5
  exact ⟨x0,x1,x2,x3,x4,x5,rfl,w4,w5⟩
end
end Go.Proofs.YtelbefihigkhjaaGreatDoor
