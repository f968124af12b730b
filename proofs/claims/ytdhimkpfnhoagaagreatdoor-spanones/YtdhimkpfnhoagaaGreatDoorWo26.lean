/- Package span: opened,both,told,Valid,number,point. -/
import Derived.Test.YtdhimkpfnhoagaaGreatDoorWo25
import Derived.Deep.CutRange
import Derived.Deep.RegionHeld
namespace Go.Proofs.YtdhimkpfnhoagaaGreatDoor
open Go.ChangeShapes Go.WideShapes Go.ChangeAt Go.RowKit Ieee
set_option linter.unusedVariables false
set_option linter.unusedSimpArgs false
set_option maxHeartbeats 16000000
set_option maxRecDepth 100000
/-- two cells of a block -/
structure P2 (w : World) (b : Nat) (u v : Value) : Prop where
 c0 : w.cell? ⟨b,0,none⟩ = some u
 c1 : w.cell? ⟨b,1,none⟩ = some v
 fz : ∀ o,w.frozen? ⟨b,o,none⟩ = false
theorem P2.new (w : World) (u v : Value) (t : TypeId) : P2 (w.alloc (.cells #[u,v] t)) w.heap.size u v:=⟨by simp [go_sem],by simp [go_sem],fun o => by simp [go_sem]⟩
theorem P2.lt {w : World} {b : Nat} {u v : Value} (h : P2 w b u v) : b < w.heap.size:=by
 have:=h.c0
 by_cases hb : b < w.heap.size
 ·exact hb
 ·have hg : w.heap[b]? = none:=by simp at hb ⊢; omega
  simp [World.cell?,hg] at this
theorem P2.kept {w w' : World} {b : Nat} {u v : Value} (h : P2 w b u v) (k : Kept w w') : P2 w' b u v :=
 ⟨(k.below.cell (p:=⟨b,0,none⟩) h.lt).trans h.c0,(k.below.cell (p:=⟨b,1,none⟩) h.lt).trans h.c1,fun o => (k.frozen _).trans (h.fz o)⟩
theorem P2.put {w : World} {b : Nat} {u v : Value} (h : P2 w b u v) (x y : Value) : P2 ((w.setCell ⟨b,0,none⟩ x).setCell ⟨b,1,none⟩ y) b x y:=by
 obtain ⟨c0,c1,fz⟩:=h
 exact ⟨by simp [go_sem, *],by simp [go_sem, *],fun o => by simp [World.frozen?_setCell, *]⟩
theorem P2.newk {w u : World} {a b : Value} {t : TypeId} (k : Kept (w.alloc (.cells #[a,b] t)) u) : P2 u w.heap.size a b:=(P2.new w a b t).kept k
theorem P2.newd {w u : World} {a b : Value} {t : TypeId} (k : Kept (w.drew.alloc (.cells #[a,b] t)) u) : P2 u w.heap.size a b:=P2.newk (w:=w.drew) k
theorem P2.newe {w u : World} {a b : Value} {t : TypeId} (k : Kept (w.alloc (.cells #[a,b] t)).drew u) : P2 u w.heap.size a b:=P2.newk (((Kept.refl _).drew).trans k)
theorem sto_f (a : Addr) (x : Nat) (m : Mode) (w : World) : (store a (.float .f64 x) m).run Tryz.prog w = stored Tryz.prog w a (.float .f64 x) m:=run_store Tryz.prog w a _ m rfl
abbrev zi : Value:=.agg #[.float .f64 0,.float .f64 0]
abbrev fv2 (x y : Nat) : Value:=.agg #[.float .f64 x,.float .f64 y]
def RB (b : Int) : Prop:=-9223372036854775808 ≤ b ∧ b ≤ 9223372036854775807
theorem opened_w (lo hi n : Int) (g1 : (n == 32) = false) (g2 : (n == 64) = false) (w : World) : Calls Tryz.prog 73 #[.agg #[.int .i64 lo,.int .i64 hi],.int .i64 n] w fun e w' => e = .returned (.tuple #[zi,.int .i64 3]) ∧ Kept w w':=by
 have KV : Hid (∀ u,Calls Tryz.prog 75 #[.int .i64 0,.int .i64 n] u fun e w' => e = .returned (.bool false) ∧ u = w'):=fun u => valid_0 0 n g1 g2 u
 have hSF:=sto_f
 go_enter Tryz.func73,Tryz.ntmps73
 go_wp2_with (first | (go_at_call 75; refine (KV.out _).mono ?_; rintro e w1 ⟨rfl,rfl⟩))
 refine bodyPost_ret (v:=.tuple #[zi,.int .i64 3]) (by simp [results,Tryz.results73,go_sem]) rfl ⟨rfl,?_⟩
 (repeat' first | assumption | exact Kept.refl _ | exact Kept.alloc (by assumption) _ _ | refine Kept.setCell ?_ ?_ _ | refine Kept.alloc ?_ _ _ | (simp <;> omega))
theorem opened_walk (lo hi n : Int) (x y : Nat) (t1 t2 t3 : Bool) (w : World)
  (KV : Hid (∀ u,Calls Tryz.prog 75 #[.int .i64 0,.int .i64 n] u fun e w' => e = .returned (.bool true) ∧ u = w'))
  (KF : Hid (∀ u b z,(b = lo ∧ z = x ∨ b = hi ∧ z = y) → Calls Tryz.prog 125 #[.int .i64 b,.int .i64 n] u fun e w' => e = .returned (.float .f64 z) ∧ Kept u w'))
  (hle : (FloatKind.f64.format.order x y == some .lt || FloatKind.f64.format.order x y == some .eq) = t1)
  (K2 : Hid (t1 = true → ∀ u,Calls Tryz.prog 122 #[.float .f64 x,.int .i64 1] u fun e w' => e = .returned (.bool t2) ∧ u = w'))
  (K3 : Hid (t1 = true → ∀ u,Calls Tryz.prog 122 #[.float .f64 y,.int .i64 (-1)] u fun e w' => e = .returned (.bool t3) ∧ u = w')) :
  Calls Tryz.prog 73 #[.agg #[.int .i64 lo,.int .i64 hi],.int .i64 n] w fun e w' => e = .returned (if (t1 && !t2 && !t3) = true then .tuple #[fv2 x y,.int .i64 0] else .tuple #[zi,.int .i64 1]) ∧ Kept w w':=by
 obtain ⟨X,hX⟩ : ∃ X,X = (w.alloc (.cells #[.int .i64 lo,.int .i64 hi] 23)).alloc (.cells #[.float .f64 0,.float .f64 0] 87):=⟨_,rfl⟩
 have hP : P2 X w.heap.size (.int .i64 lo) (.int .i64 hi):=by
  rw [hX]
  exact (P2.new w _ _ _).kept ((Kept.refl _).alloc _ _)
 have hQ : P2 X (w.heap.size + 1) (.float .f64 0) (.float .f64 0):=by
  rw [hX]
  have:=P2.new (w.alloc (.cells #[.int .i64 lo,.int .i64 hi] 23)) (.float .f64 0) (.float .f64 0) 87
  simpa using this
 have hK : Kept w X:=by
  rw [hX]
  exact ((Kept.refl w).alloc _ _).alloc _ _
 have hs : Hid (X.heap.size = w.heap.size + 2):=by rw [hX]; simp [Hid]
 have kd : Kept X X.drew:=(Kept.refl X).drew
 have HS : Hid (∀ u,Kept X u → Kept X u ∧ u.cell? ⟨w.heap.size,0,none⟩ = some (.int .i64 lo) ∧ u.cell? ⟨w.heap.size,1,none⟩ = some (.int .i64 hi)):=fun u k => ⟨k,(hP.kept k).c0,(hP.kept k).c1⟩
 have KF' : Hid (∀ u b z,(b = lo ∧ z = x ∨ b = hi ∧ z = y) → Kept X u → Calls Tryz.prog 125 #[.int .i64 b,.int .i64 n] u fun e w' => e = .returned (.float .f64 z) ∧ Kept X w' ∧ Kept u w'):=fun u b z h k => by
  refine (KF.out u b z h).mono ?_
  rintro e w' ⟨rfl,k'⟩
  exact ⟨rfl,k.trans k',k'⟩
 clear KF
 have hSF:=sto_f
 go_enter Tryz.func73,Tryz.ntmps73
 go_upto_region 1 with fail
 rw [← hX]
 clear hX
 go_upto_region 3 with (first | (go_at_call 75; refine (KV.out _).mono ?_; rintro e w1 ⟨rfl,rfl⟩))
 go_cut [6] from 11 to 19 (fun t6 wx => ∃ B,t6 = .pointer (some ⟨B,0,none⟩) ∧ X.heap.size ≤ B ∧ P2 wx B (.float .f64 x) (.float .f64 y) ∧ Kept X wx)
 case first =>
  go_region_held (fun u => Kept X u ∧ u.cell? ⟨w.heap.size,0,none⟩ = some (.int .i64 lo) ∧ u.cell? ⟨w.heap.size,1,none⟩ = some (.int .i64 hi)) (first | assumption | exact HS.out _ kd | exact HS.out _ (by assumption) | exact HS.out _ (by repeat' first | assumption | exact Kept.alloc (by assumption) _ _ | (refine Kept.setCell ?_ ?_ _) | exact Nat.le_refl _ | (simp; done) | (simp; omega))) (first | (go_at_call 125; refine (KF'.out _ _ _ (by first | exact .inl ⟨rfl,rfl⟩ | exact .inr ⟨rfl,rfl⟩) (by first | assumption | exact Kept.alloc (by assumption) _ _)).mono ?_; rintro e w3 ⟨rfl,k3,j3⟩; have z3:=k3.below.size; first | (have q3:=P2.newe j3; have q3f:=q3.fz; have q30:=q3.c0; have q31:=q3.c1) | (have q3:=P2.newd j3; have q3f:=q3.fz; have q30:=q3.c0; have q31:=q3.c1) | (have q3:=P2.newk j3; have q3f:=q3.fz; have q30:=q3.c0; have q31:=q3.c1) | (have q4:=P2.kept q3 j3; have q4f:=q4.fz; have q40:=q4.c0; have q41:=q4.c1) | skip))
  all_goals go_wp2_with fail
  all_goals go_meet
  all_goals
   refine ⟨_,rfl,?_,?_,?_⟩
   ·first | exact Nat.le_refl _ | omega
   ·first | exact q4.put _ _ | exact q3.put _ _ | exact P2.new _ _ _ _
   ·(repeat' first | assumption | exact Kept.alloc (by assumption) _ _ | (refine Kept.setCell ?_ ?_ _) | exact Nat.le_refl _ | (simp; done) | (simp; omega))
 case rest =>
  obtain ⟨B,rfl,hB,hPB,kc⟩:=hcut
  have hr:=hQ.kept kc
  obtain ⟨b0,b1,bf⟩:=hPB
  obtain ⟨r0,r1,rf⟩:=hr
  have hkw : ∀ a b : Value,Kept w ((wc.setCell ⟨w.heap.size + 1,0,none⟩ a).setCell ⟨w.heap.size + 1,1,none⟩ b):=fun a b => ((hK.trans kc).setCell (by simp) _).setCell (by simp) _
  have hz:=(P2.mk r0 r1 rf).put (.float .f64 0) (.float .f64 0)
  have hxy:=(P2.mk r0 r1 rf).put (.float .f64 x) (.float .f64 y)
  obtain ⟨z0,z1,zf⟩:=hz
  obtain ⟨y0,y1,yf⟩:=hxy
  clear hQ hP HS KF' KV kd hB kc
  cases t1
  ·go_wp2_with fail
   exact bodyPost_ret (v:=.tuple #[zi,.int .i64 1]) (by simp [results,Tryz.results73,go_sem, *]) rfl ⟨rfl,hkw _ _⟩
  ·have KI : Hid (∀ u z s t,(z = x ∧ s = 1 ∧ t = t2 ∨ z = y ∧ s = -1 ∧ t = t3) → Calls Tryz.prog 122 #[.float .f64 z,.int .i64 s] u fun e w' => e = .returned (.bool t) ∧ u = w'):=fun u z s t h => by
    rcases h with ⟨rfl,rfl,rfl⟩ | ⟨rfl,rfl,rfl⟩
    ·exact K2.out rfl u
    ·exact K3.out rfl u
   clear K2 K3
   cases t2
   ·cases t3
    ·go_wp2_with (first | (go_at_call 122; refine (KI.out _ _ _ _ (by first | exact .inl ⟨rfl,rfl,rfl⟩ | exact .inr ⟨rfl,rfl,rfl⟩)).mono ?_; rintro e w4 ⟨rfl,rfl⟩))
     all_goals exact bodyPost_ret (v:=.tuple #[fv2 x y,.int .i64 0]) (by simp [results,Tryz.results73,go_sem, *]) rfl ⟨rfl,hkw _ _⟩
    ·go_wp2_with (first | (go_at_call 122; refine (KI.out _ _ _ _ (by first | exact .inl ⟨rfl,rfl,rfl⟩ | exact .inr ⟨rfl,rfl,rfl⟩)).mono ?_; rintro e w4 ⟨rfl,rfl⟩))
     all_goals exact bodyPost_ret (v:=.tuple #[zi,.int .i64 1]) (by simp [results,Tryz.results73,go_sem, *]) rfl ⟨rfl,hkw _ _⟩
   ·go_wp2_with (first | (go_at_call 122; refine (KI.out _ _ _ _ (by first | exact .inl ⟨rfl,rfl,rfl⟩ | exact .inr ⟨rfl,rfl,rfl⟩)).mono ?_; rintro e w4 ⟨rfl,rfl⟩))
    all_goals exact bodyPost_ret (v:=.tuple #[zi,.int .i64 1]) (by simp [results,Tryz.results73,go_sem, *]) rfl ⟨rfl,hkw _ _⟩
/-- an interval of a width -/
def vsp (lo hi n : Int) : Bool:=isnum lo n && isnum hi n && decide (keyOf lo n ≤ keyOf hi n) && decide (keyOf lo n ≠ (ifn n : Int)) && decide (keyOf hi n ≠ -(ifn n : Int))
/-- what opened tells of it -/
def opE (lo hi n : Int) : Int:=if n = 64 ∨ n = 32 then (if vsp lo hi n = true then 0 else 1) else 3
def opV (lo hi n : Int) : Value:=if vsp lo hi n = true then fv2 (flv lo n) (flv hi n) else zi
theorem nan_ord (x y : Nat) (h : FloatKind.f64.format.infRung < rung FloatKind.f64.format x ∨ FloatKind.f64.format.infRung < rung FloatKind.f64.format y) : FloatKind.f64.format.order x y = none:=by
 rcases h with h | h
 ·exact order_nan_left _ _ _ hb64 h
 ·exact order_nan_right _ _ _ hb64 h
theorem flv_nan (b n : Int) (hn : n = 64 ∨ n = 32) (h : isnum b n = false) : FloatKind.f64.format.infRung < rung FloatKind.f64.format (flv b n):=by
 unfold flv
 rw [if_neg (by simp [h]),if_pos hn]
 decide +kernel
theorem le_ord (k j : Int) : (some (compare k j) == some Ordering.lt || some (compare k j) == some Ordering.eq) = decide (k ≤ j):=by
 rw [cmp_is_lt,cmp_is_eq,Bool.eq_iff_iff]
 simp
 omega
theorem vsp_nan (lo hi n : Int) (h : isnum lo n = false ∨ isnum hi n = false) : vsp lo hi n = false:=by
 unfold vsp
 rcases h with h | h <;> simp [h]
theorem opened_any (lo hi n : Int) (h1 : RB lo) (h2 : RB hi) (w : World) : Calls Tryz.prog 73 #[.agg #[.int .i64 lo,.int .i64 hi],.int .i64 n] w fun e w' => e = .returned (.tuple #[opV lo hi n,.int .i64 (opE lo hi n)]) ∧ Kept w w':=by
 by_cases hn : n = 64 ∨ n = 32
 ·have KV : Hid (∀ u,Calls Tryz.prog 75 #[.int .i64 0,.int .i64 n] u fun e w' => e = .returned (.bool true) ∧ u = w'):=fun u => by
   have:=valid_any 0 n u
   rw [show val 0 n = true by rcases hn with rfl | rfl <;> decide] at this
   exact this
  have KF : Hid (∀ u b z,(b = lo ∧ z = flv lo n ∨ b = hi ∧ z = flv hi n) → Calls Tryz.prog 125 #[.int .i64 b,.int .i64 n] u fun e w' => e = .returned (.float .f64 z) ∧ Kept u w'):=fun u b z h => by
   rcases h with ⟨rfl,rfl⟩ | ⟨rfl,rfl⟩
   ·exact sfloat_any _ n h1.1 h1.2 u
   ·exact sfloat_any _ n h2.1 h2.2 u
  by_cases hnum : isnum lo n = true ∧ isnum hi n = true
  ·have f1:=Fl.flv hnum.1 h1.1 h1.2
   have f2:=Fl.flv hnum.2 h2.1 h2.2
   have ho:=f1.ord f2
   refine (opened_walk lo hi n (flv lo n) (flv hi n) (decide (keyOf lo n ≤ keyOf hi n)) (decide (keyOf lo n = (ifn n : Int))) (decide (keyOf hi n = -(ifn n : Int))) w KV KF (by rw [ho,le_ord]) (fun _ u => isInf_up f1 u) (fun _ u => isInf_down f2 u)).mono ?_
   rintro e w' ⟨rfl,k⟩
   refine ⟨?_,k⟩
   have hv : vsp lo hi n = (decide (keyOf lo n ≤ keyOf hi n) && !decide (keyOf lo n = (ifn n : Int)) && !decide (keyOf hi n = -(ifn n : Int))):=by
    unfold vsp
    rw [hnum.1,hnum.2]
    simp
   unfold opV opE
   rw [if_pos hn,← hv]
   by_cases hvv : vsp lo hi n = true
   ·simp only [if_pos hvv]
   ·simp only [if_neg hvv]
  ·have hne : isnum lo n = false ∨ isnum hi n = false:=by
    cases h : isnum lo n <;> cases h' : isnum hi n <;> simp_all
   have hv:=vsp_nan lo hi n hne
   have ho : FloatKind.f64.format.order (flv lo n) (flv hi n) = none:=nan_ord _ _ (by
    rcases hne with h | h
    ·exact .inl (flv_nan lo n hn h)
    ·exact .inr (flv_nan hi n hn h))
   refine (opened_walk lo hi n (flv lo n) (flv hi n) false false false w KV KF (by rw [ho]; rfl) (fun h => by cases h) (fun h => by cases h)).mono ?_
   rintro e w' ⟨rfl,k⟩
   refine ⟨?_,k⟩
   unfold opV opE
   rw [if_pos hn,if_neg (by simp [hv])]
   simp [hv]
 ·have g1 : (n == 32) = false:=by simp; omega
  have g2 : (n == 64) = false:=by simp; omega
  refine (opened_w lo hi n g1 g2 w).mono ?_
  rintro e w' ⟨rfl,k⟩
  refine ⟨?_,k⟩
  have hv:=vsp_nan lo hi n (.inl (isnum_0 lo n (by omega) (by omega)))
  unfold opV opE
  rw [if_neg hn,if_neg (by simp [hv])]
theorem opV_form (lo hi n : Int) : ∃ x y,opV lo hi n = fv2 x y ∧ (vsp lo hi n = true → x = flv lo n ∧ y = flv hi n) ∧ (vsp lo hi n = false → x = 0 ∧ y = 0):=by
 unfold opV
 by_cases h : vsp lo hi n = true
 ·rw [if_pos h]
  exact ⟨_,_,rfl,fun _ => ⟨rfl,rfl⟩,fun g => by rw [h] at g; cases g⟩
 ·rw [if_neg h]
  exact ⟨_,_,rfl,fun g => absurd g h,fun _ => ⟨rfl,rfl⟩⟩
theorem opE_zero (lo hi n : Int) : opE lo hi n = 0 ↔ vsp lo hi n = true:=by
 unfold opE
 by_cases hn : n = 64 ∨ n = 32
 ·rw [if_pos hn]
  split <;> simp_all
 ·rw [if_neg hn,vsp_nan lo hi n (.inl (isnum_0 lo n (by omega) (by omega)))]
  simp
theorem svalid_any (lo hi n : Int) (h1 : RB lo) (h2 : RB hi) (w : World) : Calls Tryz.prog 26 #[.agg #[.int .i64 lo,.int .i64 hi],.int .i64 n] w fun e w' => e = .returned (.bool (vsp lo hi n)) ∧ Kept w w':=by
 obtain ⟨x,y,hf,-,-⟩:=opV_form lo hi n
 have KO : Hid (∀ u,Calls Tryz.prog 73 #[.agg #[.int .i64 lo,.int .i64 hi],.int .i64 n] u fun e w' => e = .returned (.tuple #[fv2 x y,.int .i64 (opE lo hi n)]) ∧ Kept u w'):=fun u => by
  rw [← hf]
  exact opened_any lo hi n h1 h2 u
 have hb : (opE lo hi n == 0) = vsp lo hi n:=by
  rw [Bool.eq_iff_iff,beq_iff_eq]
  exact opE_zero lo hi n
 clear hf
 generalize opE lo hi n = q at *
 generalize vsp lo hi n = v at *
 have hSF:=sto_f
 go_enter Tryz.func26,Tryz.ntmps26
 go_wp2_with (first | (go_at_call 73; refine (KO.out _).mono ?_; rintro e w1 ⟨rfl,k1⟩))
 go_ret
 exact ⟨rfl,(((Kept.refl w).alloc _ _).trans k1).alloc _ _⟩
end Go.Proofs.YtdhimkpfnhoagaaGreatDoor
