/- The laws of chapter 16: light,SameMatrix. The laws of chapter 16: the walk of StartHeld. -/
import Derived.Test.YtnafaclfdoefcaaGreatDoorWh38
import Derived.Test.YtnafaclfdoefcaaGreatDoorWh34
namespace Go.Proofs.YtnafaclfdoefcaaGreatDoor
open Go.ChangeShapes Go.WideShapes Go.ChangeAt Go.RowKit
set_option linter.unusedVariables false
set_option linter.unusedSimpArgs false
set_option maxHeartbeats 16000000
set_option maxRecDepth 100000
/-- is it played? -/
def lgt (rows cols : Int) : Bool:=decide (rows < 1) || (decide (cols < 1) || (decide (rows > 100000) || (decide (cols > 100000) || (decide (wrap64 (rows * cols) ≤ 400) || decide (wrap64 (rows * cols) > 4096)))))
theorem light_any (kd rows cols wd va vb : Int) (w : World) : Calls Tryz.prog 10 #[.agg #[.int .i64 kd,.int .i64 rows,.int .i64 cols,.int .i64 wd,.int .i64 va,.int .i64 vb]] w fun e w' => e = .returned (.bool (lgt rows cols)) ∧ Kept w w':=by
 obtain ⟨r,hr⟩ : ∃ r,r = lgt rows cols:=⟨_,rfl⟩
 rw [← hr]
 unfold lgt at hr
 obtain ⟨Y,hY⟩ : ∃ Y,Y = w.alloc (.cells #[.int .i64 kd,.int .i64 rows,.int .i64 cols,.int .i64 wd,.int .i64 va,.int .i64 vb] 23):=⟨_,rfl⟩
 obtain ⟨B0,hB0⟩ : ∃ B,B = w.heap.size:=⟨_,rfl⟩
 have hK : Kept w Y:=by rw [hY]; exact (Kept.refl w).alloc _ _
 have hP0 : Q6 Y B0 (.int .i64 kd) (.int .i64 rows) (.int .i64 cols) (.int .i64 wd) (.int .i64 va) (.int .i64 vb):=by rw [hY,hB0]; exact Q6.new w _ _ _ _ _ _ _
 go_enter Tryz.func10,Tryz.ntmps10
 go_upto_region 1 with fail
 rw [← hY,← hB0]
 clear hY hB0
 obtain ⟨p0,p1,p2,p3,p4,p5⟩:=hP0
 by_cases h0 : rows < 1
 ·have t0 : decide (rows < 1) = true:=decide_eq_true h0
  have hr2 : r = true:=by rw [hr]; simp [t0]
  clear hr
  subst hr2
  go_wp2_with fail
  go_ret
  exact ⟨rfl,hK⟩
 have t0 : decide (rows < 1) = false:=decide_eq_false h0
 by_cases h1 : cols < 1
 ·have t1 : decide (cols < 1) = true:=decide_eq_true h1
  have hr2 : r = true:=by rw [hr]; simp [t0,t1]
  clear hr
  subst hr2
  go_wp2_with fail
  go_ret
  exact ⟨rfl,hK⟩
 have t1 : decide (cols < 1) = false:=decide_eq_false h1
 by_cases h2 : rows > 100000
 ·have t2 : decide (rows > 100000) = true:=decide_eq_true h2
  have u2 : decide (100000 < rows) = true:=t2
  have hr2 : r = true:=by rw [hr]; simp [t0,t1,t2]
  clear hr
  subst hr2
  go_wp2_with fail
  go_ret
  exact ⟨rfl,hK⟩
 have t2 : decide (rows > 100000) = false:=decide_eq_false h2
 have u2 : decide (100000 < rows) = false:=t2
 by_cases h3 : cols > 100000
 ·have t3 : decide (cols > 100000) = true:=decide_eq_true h3
  have u3 : decide (100000 < cols) = true:=t3
  have hr2 : r = true:=by rw [hr]; simp [t0,t1,t2,t3]
  clear hr
  subst hr2
  go_wp2_with fail
  go_ret
  exact ⟨rfl,hK⟩
 have t3 : decide (cols > 100000) = false:=decide_eq_false h3
 have u3 : decide (100000 < cols) = false:=t3
 by_cases h4 : wrap64 (rows * cols) ≤ 400
 ·have t4 : decide (wrap64 (rows * cols) ≤ 400) = true:=decide_eq_true h4
  have hr2 : r = true:=by rw [hr]; simp [t0,t1,t2,t3,t4]
  clear hr
  subst hr2
  go_wp2_with fail
  go_ret
  exact ⟨rfl,hK⟩
 have t4 : decide (wrap64 (rows * cols) ≤ 400) = false:=decide_eq_false h4
 by_cases h5 : wrap64 (rows * cols) > 4096
 ·have t5 : decide (wrap64 (rows * cols) > 4096) = true:=decide_eq_true h5
  have u5 : decide (4096 < wrap64 (rows * cols)) = true:=t5
  have hr2 : r = true:=by rw [hr]; simp [t0,t1,t2,t3,t4,t5]
  clear hr
  subst hr2
  go_wp2_with fail
  go_ret
  exact ⟨rfl,hK⟩
 have t5 : decide (wrap64 (rows * cols) > 4096) = false:=decide_eq_false h5
 have u5 : decide (4096 < wrap64 (rows * cols)) = false:=t5
 have hr2 : r = false:=by rw [hr]; simp [t0,t1,t2,t3,t4,t5]
 clear hr
 subst hr2
 go_wp2_with fail
 go_ret
 exact ⟨rfl,hK⟩
/- what a call that answers a matrix tells: its list is new -/
def MkV (u : World) (e : Ending) (w' : World) : Prop:=∃ (r c d q : Int) (al : Option Addr) (cl : Nat) (Ll : List Int),e = .returned (.tuple #[.agg #[.int .i64 r,.int .i64 c,.int .i64 d,.slice al Ll.length cl],.int .i64 q]) ∧ Ew w' al cl Ll ∧ (al = none → cl = 0) ∧ (∀ b ∈ eb al,u.heap.size ≤ b) ∧ Ll.length ≤ 4096 ∧ Kept u w'
theorem bok_new (w : World) (t : TypeId) : Bok (w.alloc (.cells #[.slice none 0 0,.slice none 0 0,.slice none 0 0,.slice none 0 0,.slice none 0 0,.slice none 0 0,.slice none 0 0,.slice none 0 0,.slice none 0 0,.slice none 0 0,.slice none 0 0,.slice none 0 0,.slice none 0 0,.slice none 0 0,.slice none 0 0,.slice none 0 0] t)) w.heap.size 0 (fun _ => none) (fun _ => 0) (fun _ => 0) (fun _ => none) (fun _ => 0) (fun _ => []) (.slice none 0 0) (.slice none 0 0) :=
 ⟨by simp [go_sem],by simp [go_sem],fun o => by simp [go_sem],⟨by simp [go_sem],by simp [go_sem],by simp [go_sem],by simp [go_sem],by simp [go_sem],by simp [go_sem],by simp [go_sem]⟩,.inl ⟨rfl,rfl⟩,.inl ⟨rfl,rfl⟩,fun b hb => by simp [rb] at hb,fun j hj => by omega,fun j hj => by omega,fun j hj => by omega,fun j hj => by omega,fun j hj => by omega,fun j k hj => by omega,fun j hj => by omega,fun j hj => by omega⟩
/- the book with n lists,all below a block -/
def Bks (u : World) (B n H : Nat) : Prop:=∃ a c m a' c' L vI vW,Bok u B n a c m a' c' L vI vW ∧ ∀ j,j < n → m j ≤ 4096 ∧ ∀ b ∈ eb (a j),b < H
theorem Bks.kept {u u' : World} {B n H : Nat} (h : Bks u B n H) (k : Kept u u') : Bks u' B n H:=by
 obtain ⟨a,c,m,a',c',L,vI,vW,h1,h2⟩:=h
 exact ⟨a,c,m,a',c',L,vI,vW,h1.kept k,h2⟩
theorem Bks.lt {u : World} {B n H : Nat} (h : Bks u B n H) : B < u.heap.size:=by
 obtain ⟨a,c,m,a',c',L,vI,vW,h1,h2⟩:=h
 exact h1.lt
theorem Bks.mono {u : World} {B n H H' : Nat} (h : Bks u B n H) (hh : H ≤ H') : Bks u B n H':=by
 obtain ⟨a,c,m,a',c',L,vI,vW,h1,h2⟩:=h
 exact ⟨a,c,m,a',c',L,vI,vW,h1,fun j hj => ⟨(h2 j hj).1,fun b hb => Nat.lt_of_lt_of_le ((h2 j hj).2 b hb) hh⟩⟩
theorem bookMatrix (B n H H' : Nat) (hn : n < 400) (u0 w : World) (hk : Kept u0 w) (h0 : Bks u0 B n H) (hBH : B < H) (hHH : H ≤ H') (r c d : Int) (al : Option Addr) (cl : Nat) (Ll : List Int) (hl : Ll.length ≤ 4096) (hE : Ew w al cl Ll) (hc : al = none → cl = 0) (hlo : ∀ b ∈ eb al,H ≤ b ∧ b < H') :
  Calls Tryz.prog 19 #[.pointer (some ⟨B,0,none⟩),.agg #[.int .i64 r,.int .i64 c,.int .i64 d,.slice al Ll.length cl]] w fun e w' => e = .returned (.tuple #[]) ∧ Bks w' B (n + 1) H' ∧ (∀ x d M,B < x → Own w x d M → Own w' x d M) ∧ ∃ S,(∀ b ∈ S,B ≤ b ∧ b < u0.heap.size) ∧ Gs S w w':=by
 obtain ⟨a,c1,m,a',c',L,vI,vW,h1,h2⟩:=h0
 obtain ⟨X,hX⟩ : ∃ X,X = w.alloc (.cells #[.int .i64 r,.int .i64 c,.int .i64 d,.slice al Ll.length cl] 28):=⟨_,rfl⟩
 have kX : Kept w X:=by rw [hX]; exact (Kept.refl w).alloc _ _
 have x3 : X.cell? ⟨w.heap.size,3,none⟩ = some (.slice al Ll.length cl):=by rw [hX]; simp [go_sem]
 have hB : B < u0.heap.size:=h1.lt
 have KI:=bookInts B n hn a c1 m a' c' L vI vW X (h1.kept (hk.trans kX)) al cl Ll (by omega) (hE.kept kX) hc (fun j hj b hb hb2 => by
  have:=(h2 j hj).2 b hb2
  have:=hlo b hb
  omega) (fun b hb => by have:=hlo b hb; omega)
 have HR : Hid (∀ (e : Ending) (w' : World),(e = .returned (.tuple #[]) ∧ (∃ a2 c2 vI' vW',Bok w' B (n + 1) (up a n al) (up c1 n cl) (up m n Ll.length) a2 c2 (up L n Ll) vI' vW') ∧ (∀ x d M,B < x → Own X x d M → Own w' x d M) ∧ Gs (B :: (rb vI ++ rb vW)) X w') → e = .returned (.tuple #[]) ∧ Bks w' B (n + 1) H' ∧ (∀ x d M,B < x → Own w x d M → Own w' x d M) ∧ ∃ S,(∀ b ∈ S,B ≤ b ∧ b < u0.heap.size) ∧ Gs S w w'):=fun e w' q => by
  obtain ⟨rfl,⟨a2,c2,vI',vW',q1⟩,q2,q3⟩:=q
  refine ⟨rfl,⟨_,_,_,_,_,_,_,_,q1,fun j hj => ?_⟩,fun x d M hx ho => q2 x d M hx (ho.kept kX),B :: (rb vI ++ rb vW),fun b hb => ?_,(kX.gs _).trans q3⟩
  ·by_cases e : j = n
   ·subst e; rw [up_eq,up_eq]; exact ⟨hl,fun b hb => (hlo b hb).2⟩
   ·rw [up_lt _ _ _ (by omega),up_lt _ _ _ (by omega)]; exact ⟨(h2 j (by omega)).1,fun b hb => Nat.lt_of_lt_of_le ((h2 j (by omega)).2 b hb) hHH⟩
  ·rcases List.mem_cons.1 hb with e | e
   ·omega
   ·rcases List.mem_append.1 e with e | e
    ·have:=h1.rI.lt b e; omega
    ·have:=h1.rW.lt b e; omega
 have HKI:=(show Hid (Calls Tryz.prog 80 #[.pointer (some ⟨B,0,none⟩),.slice al Ll.length cl] X fun e w' => e = .returned (.tuple #[]) ∧ (∃ a2 c2 vI' vW',Bok w' B (n + 1) (up a n al) (up c1 n cl) (up m n Ll.length) a2 c2 (up L n Ll) vI' vW') ∧ (∀ x d M,B < x → Own X x d M → Own w' x d M) ∧ Gs (B :: (rb vI ++ rb vW)) X w') from KI)
 obtain ⟨B2,hB2⟩ : ∃ B2,B2 = w.heap.size:=⟨_,rfl⟩
 rw [← hB2] at x3
 have HX3:=(show Hid (X.cell? ⟨B2,3,none⟩ = some (.slice al Ll.length cl)) from x3)
 clear KI h1 h2 hE hc hlo hk x3 kX
 go_enter Tryz.func19,Tryz.ntmps19
 go_upto_region 1 with fail
 rw [← hX,← hB2]
 clear hX hB2
 have x3:=HX3.out
 go_wp2_with fail
 refine HKI.out.mono ?_
 intro e w' q
 obtain ⟨rfl,q2⟩:=HR.out e w' q
 clear q HR HKI
 go_wp2_with fail
 exact bodyPost_end (v:=.tuple #[]) (by simp [results,Tryz.results19,go_sem]) rfl ⟨rfl,q2⟩
theorem held_walk (ki1 ro1 co1 wi1 va1 vb1 ki2 ro2 co2 wi2 va2 vb2 seed stream : Int) (l1 l2 : Bool) (w : World)
  (KA : Hid (∀ u,Kept w u → Calls Tryz.prog 9 #[] u fun e w' => e = .returned (.bool true) ∧ Kept u w'))
  (KL1 : Hid (∀ u,Calls Tryz.prog 10 #[.agg #[.int .i64 ki1,.int .i64 ro1,.int .i64 co1,.int .i64 wi1,.int .i64 va1,.int .i64 vb1]] u fun e w' => e = .returned (.bool l1) ∧ Kept u w'))
  (KL2 : Hid (∀ u,Calls Tryz.prog 10 #[.agg #[.int .i64 ki2,.int .i64 ro2,.int .i64 co2,.int .i64 wi2,.int .i64 va2,.int .i64 vb2]] u fun e w' => e = .returned (.bool l2) ∧ Kept u w'))
  (KX : Hid (∀ u,Kept w u → Calls Tryz.prog 11 #[.agg #[.int .i64 ki1,.int .i64 ro1,.int .i64 co1,.int .i64 wi1,.int .i64 va1,.int .i64 vb1],.int .i64 seed,.int .i64 stream] u fun e w' => MkV u e w'))
  (KO : Hid (∀ u t,Kept w u → Calls Tryz.prog 11 #[.agg #[.int .i64 ki2,.int .i64 ro2,.int .i64 co2,.int .i64 wi2,.int .i64 va2,.int .i64 vb2],.int .i64 seed,.int .i64 t] u fun e w' => MkV u e w')) :
  Calls Tryz.prog 5 #[.agg #[.int .i64 ki1,.int .i64 ro1,.int .i64 co1,.int .i64 wi1,.int .i64 va1,.int .i64 vb1],.agg #[.int .i64 ki2,.int .i64 ro2,.int .i64 co2,.int .i64 wi2,.int .i64 va2,.int .i64 vb2],.int .i64 seed,.int .i64 stream] w fun e w' => e = .returned (.bool true) ∧ Kept w w':=by
 obtain ⟨X,hX⟩ : ∃ X,X = (w.alloc (.cells #[.int .i64 ki1,.int .i64 ro1,.int .i64 co1,.int .i64 wi1,.int .i64 va1,.int .i64 vb1] 23)).alloc (.cells #[.int .i64 ki2,.int .i64 ro2,.int .i64 co2,.int .i64 wi2,.int .i64 va2,.int .i64 vb2] 23):=⟨_,rfl⟩
 obtain ⟨B0,hB0⟩ : ∃ B,B = w.heap.size:=⟨_,rfl⟩
 obtain ⟨B1,hB1⟩ : ∃ B,B = B0 + 1:=⟨_,rfl⟩
 have hK : Kept w X:=by rw [hX]; exact ((Kept.refl w).alloc _ _).alloc _ _
 have hP0 : Q6 X B0 (.int .i64 ki1) (.int .i64 ro1) (.int .i64 co1) (.int .i64 wi1) (.int .i64 va1) (.int .i64 vb1):=by rw [hX,hB0]; exact (Q6.new w _ _ _ _ _ _ _).alloc _ _
 have hP1 : Q6 X B1 (.int .i64 ki2) (.int .i64 ro2) (.int .i64 co2) (.int .i64 wi2) (.int .i64 va2) (.int .i64 vb2):=by
  rw [hX,hB1,hB0]
  have:=Q6.new (w.alloc (.cells #[.int .i64 ki1,.int .i64 ro1,.int .i64 co1,.int .i64 wi1,.int .i64 va1,.int .i64 vb1] 23)) (.int .i64 ki2) (.int .i64 ro2) (.int .i64 co2) (.int .i64 wi2) (.int .i64 va2) (.int .i64 vb2) 23
  simpa using this
 have HP0 : Hid (∀ u,Kept X u → Q6 u B0 (.int .i64 ki1) (.int .i64 ro1) (.int .i64 co1) (.int .i64 wi1) (.int .i64 va1) (.int .i64 vb1)):=fun u k => hP0.kept k
 have HP1 : Hid (∀ u,Kept X u → Q6 u B1 (.int .i64 ki2) (.int .i64 ro2) (.int .i64 co2) (.int .i64 wi2) (.int .i64 va2) (.int .i64 vb2)):=fun u k => hP1.kept k
 clear hP0 hP1
 go_enter Tryz.func5,Tryz.ntmps5
 go_upto_region 1 with fail
 rw [← hX,← hB0,← hB1]
 clear hX hB0 hB1
 go_wp2_with fail
 refine (KA.out _ hK).mono ?_
 rintro e w1 ⟨rfl,k1⟩
 obtain ⟨p0,p1,p2,p3,p4,p5⟩:=HP0.out _ k1
 go_wp2_with fail
 refine (KL1.out _).mono ?_
 rintro e w2 ⟨rfl,k2⟩
 clear p0 p1 p2 p3 p4 p5
 have k12:=k1.trans k2
 clear k1 k2
 cases l1
 ·go_wp2_with fail
  refine (KA.out _ (hK.trans k12)).mono ?_
  rintro e w9 ⟨rfl,k9⟩
  go_wp2_with fail
  go_ret
  exact ⟨rfl,(hK.trans k12).trans k9⟩
 obtain ⟨r0,r1,r2,r3,r4,r5⟩:=HP1.out _ k12
 go_wp2_with fail
 refine (KL2.out _).mono ?_
 rintro e w3 ⟨rfl,k3⟩
 clear r0 r1 r2 r3 r4 r5
 have k13:=k12.trans k3
 clear k12 k3
 cases l2
 ·go_wp2_with fail
  refine (KA.out _ (hK.trans k13)).mono ?_
  rintro e w9 ⟨rfl,k9⟩
  go_wp2_with fail
  go_ret
  exact ⟨rfl,(hK.trans k13).trans k9⟩
 obtain ⟨Y,hY⟩ : ∃ Y,Y = w3.alloc (.cells #[.slice none 0 0,.slice none 0 0,.slice none 0 0,.slice none 0 0,.slice none 0 0,.slice none 0 0,.slice none 0 0,.slice none 0 0,.slice none 0 0,.slice none 0 0,.slice none 0 0,.slice none 0 0,.slice none 0 0,.slice none 0 0,.slice none 0 0,.slice none 0 0] 47):=⟨_,rfl⟩
 have bY : Bks Y w3.heap.size 0 Y.heap.size:=by rw [hY]; exact ⟨_,_,_,_,_,_,_,_,bok_new w3 _,fun j hj => by omega⟩
 have kY : Kept w3 Y:=by rw [hY]; exact (Kept.refl w3).alloc _ _
 obtain ⟨B,hB⟩ : ∃ B,B = w3.heap.size:=⟨_,rfl⟩
 rw [← hB] at bY
 have HB : Hid (Bks Y B 0 Y.heap.size ∧ Kept w3 Y ∧ w3.heap.size ≤ B):=⟨bY,kY,Nat.le_of_eq hB.symm⟩
 have HK13:=(show Hid (Kept X w3) from k13)
 have HKW:=(show Hid (Kept w X) from hK)
 clear bY kY k13 hK
 go_upto_region 4 with fail
 rw [← hY,← hB]
 clear hY hB
 go_wp2_with fail
 go_loopw [10] (fun kv wr => ∃ k : Nat,k ≤ 3 ∧ kv = .int .i64 (k : Int) ∧ Bks wr B (2 * k) wr.heap.size ∧ Kept w3 wr) (fun kv _ => 3 - (intOf kv).toNat)
 case atStart => exact ⟨0,Nat.zero_le _,rfl,HB.out.1,HB.out.2.1⟩
 case round =>
  obtain ⟨k,hk,rfl,hb,kr⟩:=hrel
  have HBK:=(show Hid (Bks wr B (2 * k) wr.heap.size) from hb)
  have HKR:=(show Hid (Kept X wr) from HK13.out.trans kr)
  have HKR3:=(show Hid (Kept w3 wr) from kr)
  clear hb kr
  by_cases hk3 : k < 3
  ·have hki : (k : Int) < 3:=by omega
   obtain ⟨p0,p1,p2,p3,p4,p5⟩:=HP0.out _ HKR.out
   go_wp2_with fail
   refine (KX.out _ (HKW.out.trans HKR.out)).mono ?_
   rintro e u1 ⟨r,c,d,q,al,cl,Ll,rfl,hE,hc0,hlo,hlen,k1⟩
   obtain ⟨U1,hU1⟩ : ∃ U,U = u1.alloc (.cells #[.int .i64 r,.int .i64 c,.int .i64 d,.slice al Ll.length cl] 28):=⟨_,rfl⟩
   have kU1 : Kept u1 U1:=by rw [hU1]; exact (Kept.refl u1).alloc _ _
   have m0 : U1.cell? ⟨u1.heap.size,0,none⟩ = some (.int .i64 r):=by rw [hU1]; simp [go_sem]
   have m1 : U1.cell? ⟨u1.heap.size,1,none⟩ = some (.int .i64 c):=by rw [hU1]; simp [go_sem]
   have m2 : U1.cell? ⟨u1.heap.size,2,none⟩ = some (.int .i64 d):=by rw [hU1]; simp [go_sem]
   have m3 : U1.cell? ⟨u1.heap.size,3,none⟩ = some (.slice al Ll.length cl):=by rw [hU1]; simp [go_sem]
   obtain ⟨M1,hM1⟩ : ∃ M,M = u1.heap.size:=⟨_,rfl⟩
   rw [← hM1] at m0 m1 m2 m3
   have HM1:=(show Hid (∀ u,Kept U1 u → u.cell? ⟨M1,0,none⟩ = some (.int .i64 r) ∧ u.cell? ⟨M1,1,none⟩ = some (.int .i64 c) ∧ u.cell? ⟨M1,2,none⟩ = some (.int .i64 d) ∧ u.cell? ⟨M1,3,none⟩ = some (.slice al Ll.length cl)) from fun u k => ⟨(k.below.cell (p:=⟨M1,0,none⟩) (World.block_lt_of_cell? _ _ m0)).trans m0,(k.below.cell (p:=⟨M1,1,none⟩) (World.block_lt_of_cell? _ _ m1)).trans m1,(k.below.cell (p:=⟨M1,2,none⟩) (World.block_lt_of_cell? _ _ m2)).trans m2,(k.below.cell (p:=⟨M1,3,none⟩) (World.block_lt_of_cell? _ _ m3)).trans m3⟩)
   have HE1:=(show Hid (Ew U1 al cl Ll ∧ (al = none → cl = 0) ∧ (∀ b ∈ eb al,wr.heap.size ≤ b ∧ b < U1.heap.size) ∧ Ll.length ≤ 4096 ∧ Kept wr U1) from ⟨hE.kept kU1,hc0,fun b hb => ⟨hlo b hb,by
    obtain ⟨M,ho⟩:=(hE.kept kU1).eb b hb
    exact ho.lt⟩,hlen,k1.trans kU1⟩)
   obtain ⟨ll,hll⟩ : ∃ ll,Ll.length = ll:=⟨_,rfl⟩
   have HLL:=(show Hid (Ll.length = ll) from hll)
   clear p0 p1 p2 p3 p4 p5 m0 m1 m2 m3 hE hc0 hlo hlen k1 kU1
   rw [hll] at HM1 hU1
   go_upto_region 8 with fail
   (try rw [hll])
   rw [← hU1,← hM1]
   clear hU1 hM1 hll
   obtain ⟨r0,r1,r2,r3,r4,r5⟩:=HP1.out _ (HKR.out.trans HE1.out.2.2.2.2)
   obtain ⟨tt,htt⟩ : ∃ tt,IntKind.i64.wrap (stream + (k : Int)) = tt:=⟨_,rfl⟩
   go_wp2_with fail
   refine (KO.out _ tt (HKW.out.trans (HKR.out.trans HE1.out.2.2.2.2))).mono ?_
   rintro e u2 ⟨r',c',d',q',al',cl',Ll',rfl,hE,hc0,hlo,hlen,k1⟩
   obtain ⟨U2,hU2⟩ : ∃ U,U = u2.alloc (.cells #[.int .i64 r',.int .i64 c',.int .i64 d',.slice al' Ll'.length cl'] 28):=⟨_,rfl⟩
   have kU2 : Kept u2 U2:=by rw [hU2]; exact (Kept.refl u2).alloc _ _
   have m0 : U2.cell? ⟨u2.heap.size,0,none⟩ = some (.int .i64 r'):=by rw [hU2]; simp [go_sem]
   have m1 : U2.cell? ⟨u2.heap.size,1,none⟩ = some (.int .i64 c'):=by rw [hU2]; simp [go_sem]
   have m2 : U2.cell? ⟨u2.heap.size,2,none⟩ = some (.int .i64 d'):=by rw [hU2]; simp [go_sem]
   have m3 : U2.cell? ⟨u2.heap.size,3,none⟩ = some (.slice al' Ll'.length cl'):=by rw [hU2]; simp [go_sem]
   obtain ⟨M2,hM2⟩ : ∃ M,M = u2.heap.size:=⟨_,rfl⟩
   rw [← hM2] at m0 m1 m2 m3
   have hM2r : wr.heap.size ≤ M2:=by rw [hM2]; exact Nat.le_trans HE1.out.2.2.2.2.below.size k1.below.size
   have HM2:=(show Hid (∀ S u,(∀ b ∈ S,b < wr.heap.size) → Gs S U2 u → u.cell? ⟨M2,0,none⟩ = some (.int .i64 r') ∧ u.cell? ⟨M2,1,none⟩ = some (.int .i64 c') ∧ u.cell? ⟨M2,2,none⟩ = some (.int .i64 d') ∧ u.cell? ⟨M2,3,none⟩ = some (.slice al' Ll'.length cl')) from fun S u hS k => by
    have hn : M2 ∉ S:=fun hm => by have:=hS _ hm; omega
    have hl:=World.block_lt_of_cell? _ _ m0
    exact ⟨(k.cell M2 0 hl hn).trans m0,(k.cell M2 1 hl hn).trans m1,(k.cell M2 2 hl hn).trans m2,(k.cell M2 3 hl hn).trans m3⟩)
   have HE2:=(show Hid (Ew U2 al' cl' Ll' ∧ (al' = none → cl' = 0) ∧ (∀ b ∈ eb al',U1.heap.size ≤ b) ∧ Ll'.length ≤ 4096 ∧ Kept U1 U2) from ⟨hE.kept kU2,hc0,hlo,hlen,k1.trans kU2⟩)
   obtain ⟨ll',hll'⟩ : ∃ ll,Ll'.length = ll:=⟨_,rfl⟩
   have HLL':=(show Hid (Ll'.length = ll') from hll')
   clear r0 r1 r2 r3 r4 r5 m0 m1 m2 m3 hE hc0 hlo hlen k1 kU2 hM2r htt
   rw [hll'] at HM2 hU2
   go_upto_region 9 with fail
   (try rw [hll'])
   rw [← hU2,← hM2]
   clear hU2 hM2 hll'
   have HKU:=(show Hid (Kept wr U2) from HE1.out.2.2.2.2.trans HE2.out.2.2.2.2)
   obtain ⟨m0,m1,m2,m3⟩:=HM1.out _ HE2.out.2.2.2.2
   have KM1:=bookMatrix B (2 * k) wr.heap.size U1.heap.size (by omega) wr U2 HKU.out HBK.out HBK.out.lt HE1.out.2.2.2.2.below.size r c d al cl Ll HE1.out.2.2.2.1 (HE1.out.1.kept HE2.out.2.2.2.2) HE1.out.2.1 HE1.out.2.2.1
   rw [HLL.out] at KM1
   go_wp2_with fail
   refine KM1.mono ?_
   rintro e u3 ⟨rfl,b3,o3,S,hS,g3⟩
   clear KM1 m0 m1 m2 m3
   obtain ⟨m0,m1,m2,m3⟩:=HM2.out S u3 (fun b hb => (hS b hb).2) g3
   have hBr : B < wr.heap.size:=HBK.out.lt
   have hUs:=HE1.out.2.2.2.2.below.size
   have hE3 : Ew u3 al' cl' Ll':=by
    rcases HE2.out.1 with h1 | ⟨b,h1,h2⟩
    ·exact .inl h1
    ·have:=HE2.out.2.2.1 b (by rw [h1]; simp [eb])
     exact .inr ⟨b,h1,o3 b _ _ (by omega) h2⟩
   have hU2s:=g3.size
   have KM2:=bookMatrix B (2 * k + 1) U1.heap.size u3.heap.size (by omega) u3 u3 (Kept.refl _) b3 (by omega) (by have:=HE2.out.2.2.2.2.below.size; omega) r' c' d' al' cl' Ll' HE2.out.2.2.2.1 hE3 HE2.out.2.1 (fun b hb => ⟨HE2.out.2.2.1 b hb,by
    obtain ⟨M,ho⟩:=hE3.eb b hb
    exact ho.lt⟩)
   rw [HLL'.out] at KM2
   have hB3:=HB.out.2.2
   have K3 : Kept w3 u3:=(HKR3.out.trans HKU.out).gsn (fun b hb => by have:=(hS b hb).1; omega) g3
   have HK3:=(show Hid (Kept w3 u3) from K3)
   clear hE3 o3 g3 hS b3 hBr hUs hU2s K3
   go_wp2_with fail
   refine KM2.mono ?_
   rintro e u4 ⟨rfl,b4,o4,S2,hS2,g4⟩
   have K4 : Kept w3 u4:=HK3.out.gsn (fun b hb => by have:=(hS2 b hb).1; omega) g4
   have HB4:=(show Hid (Bks u4 B (2 * k + 1 + 1) u4.heap.size ∧ Kept w3 u4) from ⟨b4.mono g4.size,K4⟩)
   clear KM2 m0 m1 m2 m3 b4 o4 hS2 g4 K4
   go_wp2_with fail
   go_roundw
   case rel => exact ⟨k + 1,by omega,by go_num,HB4.out.1,HB4.out.2⟩
   case measure => simp [intOf]; omega
  ·obtain rfl : k = 3:=by omega
   obtain ⟨a,c,m,a',c',L,vI,vW,h1,h2⟩:=HBK.out
   have KAp:=book_apart B 6 (by decide) (by decide) a c m a' c' L vI vW wr (fun j hj => by have:=(h2 j hj).1; omega) h1
   have hBo:=HB.out.2.2
   have hfin : ∀ W',Gs (B :: ebs 6 a) wr W' → Kept w3 W':=fun W' g => HKR3.out.gsn (fun b hb => by
    rcases List.mem_cons.1 hb with e | e
    ·omega
    ·obtain ⟨j,q1,q2⟩:=ebs_mem e
     have:=h1.lo j q1 b q2
     omega) g
   have HF:=(show Hid (∀ W',Gs (B :: ebs 6 a) wr W' → Kept w3 W') from hfin)
   have HKA:=(show Hid (Calls Tryz.prog 18 #[.pointer (some ⟨B,0,none⟩)] wr fun e w' => e = .returned (.bool true) ∧ ∃ W',Gs (B :: ebs 6 a) wr W' ∧ Kept W' w') from KAp)
   clear KAp hfin h1 h2
   go_wp2_with fail
   refine HKA.out.mono ?_
   rintro e w9 ⟨rfl,W',g9,k9⟩
   go_wp2_with fail
   go_ret
   exact ⟨rfl,HKW.out.trans (HK13.out.trans ((HF.out W' g9).trans k9))⟩
end Go.Proofs.YtnafaclfdoefcaaGreatDoor
