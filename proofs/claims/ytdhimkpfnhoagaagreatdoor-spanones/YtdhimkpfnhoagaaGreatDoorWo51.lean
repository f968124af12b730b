/- The laws' own first and is. Package span: Neg,Of,Around,Has,Point with their errors. Package span: Point where it is none. -/
import Derived.Test.YtdhimkpfnhoagaaGreatDoorWo38
import Derived.Test.YtdhimkpfnhoagaaGreatDoorWo48
import Derived.Test.YtdhimkpfnhoagaaGreatDoorWo43
import Derived.Test.YtdhimkpfnhoagaaGreatDoorWo37
import Derived.Test.YtdhimkpfnhoagaaGreatDoorWo21
namespace Go.Proofs.YtdhimkpfnhoagaaGreatDoor
open Go.ChangeShapes Go.WideShapes Go.ChangeAt Go.RowKit Ieee
set_option linter.unusedVariables false
set_option linter.unusedSimpArgs false
set_option maxHeartbeats 16000000
set_option maxRecDepth 100000
/-- the errors of a width and of intervals -/
def fs5 (n : Int) (ok : Bool) : Int:=if n = 64 ∨ n = 32 then (if ok = true then 0 else 1) else 3
theorem first5 (n : Int) (ok : Bool) (w : World) : Calls Tryz.prog 31 #[.int .i64 n,.bool ok] w fun e w' => e = .returned (.int .i64 (fs5 n ok)) ∧ Kept w w':=by
 unfold fs5
 by_cases h32 : n = 32
 ·subst h32
  rw [if_pos (.inr rfl)]
  cases ok
  ·go_enter Tryz.func31,Tryz.ntmps31
   go_wp2_with fail
   go_ret
   exact ⟨rfl,Kept.refl _⟩
  ·go_enter Tryz.func31,Tryz.ntmps31
   go_wp2_with fail
   go_ret
   exact ⟨rfl,Kept.refl _⟩
 ·by_cases h64 : n = 64
  ·subst h64
   rw [if_pos (.inl rfl)]
   cases ok
   ·go_enter Tryz.func31,Tryz.ntmps31
    go_wp2_with fail
    go_ret
    exact ⟨rfl,Kept.refl _⟩
   ·go_enter Tryz.func31,Tryz.ntmps31
    go_wp2_with fail
    go_ret
    exact ⟨rfl,Kept.refl _⟩
  ·rw [if_neg (by omega)]
   have b1 : (n != 32) = true:=by simpa using h32
   have b2 : (n != 64) = true:=by simpa using h64
   go_enter Tryz.func31,Tryz.ntmps31
   go_wp2_with fail
   go_ret
   exact ⟨rfl,Kept.refl _⟩
theorem is5_bad (q : Int) (hq : (q != 0) = true) (r1 r2 : Int) (w : World) : Calls Tryz.prog 42 #[.agg #[.int .i64 0,.int .i64 0],.int .i64 q,.int .i64 q,.agg #[.int .i64 r1,.int .i64 r2]] w fun e w' => e = .returned (.bool true) ∧ Kept w w':=by
 have b1 : (q == q) = true:=by simp
 go_enter Tryz.func42,Tryz.ntmps42
 go_wp2_with fail
 go_ret
 exact ⟨rfl,((Kept.refl _).alloc _ _).alloc _ _⟩
theorem is5_ok (r1 r2 : Int) (w : World) : Calls Tryz.prog 42 #[.agg #[.int .i64 r1,.int .i64 r2],.int .i64 0,.int .i64 0,.agg #[.int .i64 r1,.int .i64 r2]] w fun e w' => e = .returned (.bool true) ∧ Kept w w':=by
 have b1 : (r1 == r1) = true:=by simp
 have b2 : (r2 == r2) = true:=by simp
 go_enter Tryz.func42,Tryz.ntmps42
 go_wp2_with fail
 go_ret
 exact ⟨rfl,((Kept.refl _).alloc _ _).alloc _ _⟩
theorem opE_nz (lo hi n : Int) (h : vsp lo hi n = false) : (opE lo hi n != 0) = true:=by
 have:=(opE_zero lo hi n)
 rw [h] at this
 simp at this ⊢
 exact this
theorem opened_bad (lo hi n : Int) (h1 : RB lo) (h2 : RB hi) (h : vsp lo hi n = false) (u : World) : Calls Tryz.prog 73 #[sp2 lo hi,.int .i64 n] u fun e w' => e = .returned (.tuple #[fv2 0 0,.int .i64 (opE lo hi n)]) ∧ Kept u w':=by
 have:=opened_any lo hi n h1 h2 u
 unfold opV at this
 rw [if_neg (by simp [h])] at this
 exact this
theorem neg5_no (lo hi n : Int) (h1 : RB lo) (h2 : RB hi) (h : vsp lo hi n = false) (w : World) : Calls Tryz.prog 20 #[sp2 lo hi,.int .i64 n] w fun e w' => e = .returned (.tuple #[sp2 0 0,.int .i64 (opE lo hi n)]) ∧ Kept w w' :=
 neg_walk5 lo hi n 0 0 _ _ _ _ _ w (fun u => opened_bad lo hi n h1 h2 h u) (fun u => sturned_any _ _ u) (fun u => told_err5 _ _ n _ (opE_nz lo hi n h) u)
theorem sof_walk (b n : Int) (x : Nat) (q p1 p2 : Int) (w : World)
  (KN : Hid (∀ u,Calls Tryz.prog 90 #[.int .i64 b,.int .i64 n] u fun e w' => e = .returned (.tuple #[.float .f64 x,.int .i64 q]) ∧ Kept u w'))
  (KP : Hid (∀ u,Calls Tryz.prog 77 #[.float .f64 x] u fun e w' => e = .returned (fv2 x x) ∧ Kept u w'))
  (KT : Hid (∀ u,Calls Tryz.prog 68 #[fv2 x x,.int .i64 n,.int .i64 q] u fun e w' => e = .returned (.tuple #[sp2 p1 p2,.int .i64 q]) ∧ Kept u w')) :
  Calls Tryz.prog 32 #[.int .i64 b,.int .i64 n] w fun e w' => e = .returned (.tuple #[sp2 p1 p2,.int .i64 q]) ∧ Kept w w':=by
 obtain ⟨X,hX⟩ : ∃ X,X = w.alloc (.cells #[.int .i64 0,.int .i64 0] 23):=⟨_,rfl⟩
 have hK : Kept w X:=by rw [hX]; exact (Kept.refl w).alloc _ _
 have hR : P2 X w.heap.size (.int .i64 0) (.int .i64 0):=by rw [hX]; exact P2.new w _ _ _
 obtain ⟨H0,hH0⟩ : ∃ H,H = w.heap.size:=⟨_,rfl⟩
 rw [← hH0] at hR
 have o1' : w.heap.size ≤ H0:=by omega
 go_enter Tryz.func32,Tryz.ntmps32
 go_upto_region 1 with fail
 rw [← hX,← hH0]
 clear hX hH0
 go_wp2_with fail
 refine (KN.out _).mono ?_
 rintro e w1 ⟨rfl,k1⟩
 go_wp2_with fail
 refine (KP.out _).mono ?_
 rintro e w2 ⟨rfl,k2⟩
 go_wp2_with fail
 refine (KT.out _).mono ?_
 rintro e w3 ⟨rfl,k3⟩
 have j2:=k1.trans (k2.trans k3)
 have hz:=(hR.kept j2).put (.int .i64 p1) (.int .i64 p2)
 obtain ⟨d0,d1,df⟩:=hR.kept j2
 obtain ⟨e0,e1,ef⟩:=hz
 go_wp2_with fail
 exact bodyPost_ret (v:=.tuple #[sp2 p1 p2,.int .i64 q]) (by simp [results,Tryz.results32,go_sem,e0,e1]) rfl ⟨rfl,((hK.trans j2).setCell o1' _).setCell o1' _⟩
theorem sof5 (b n : Int) (hb : RB b) (w : World) : Calls Tryz.prog 32 #[.int .i64 b,.int .i64 n] w fun e w' => e = .returned (.tuple #[if nmE b n = 0 then sp2 (pz n (keyOf b n)) (pz n (keyOf b n)) else sp2 0 0,.int .i64 (nmE b n)]) ∧ Kept w w':=by
 have KN:=fun u => number_any b n hb u
 by_cases h : nmE b n = 0
 ·rw [if_pos h]
  have hf : fin b n = true:=by
   unfold nmE at h
   (repeat' split at h) <;> first | assumption | omega
  have hn : n = 64 ∨ n = 32:=by
   unfold fin at hf
   rw [decide_eq_true_eq] at hf
   exact hf.1
  have hi : isnum b n = true:=by
   unfold fin at hf
   rw [decide_eq_true_eq] at hf
   unfold isnum
   rw [decide_eq_true_eq]
   exact ⟨hf.1,by omega⟩
  have hx : nmF b n = flv b n:=by unfold nmF; rw [if_pos hf]
  rw [hx] at KN
  have fl:=Fl.flv hi hb.1 hb.2
  refine sof_walk b n (flv b n) _ _ _ w KN (fun u => point_any _ u) (fun u => ?_)
  rw [h]
  exact told_ok5 fl fl u
 ·rw [if_neg h]
  exact sof_walk b n _ _ _ _ w KN (fun u => point_any _ u) (fun u => told_err5 _ _ n _ (by simpa using h) u)
theorem saround_no (n : Int) (ng : Bool) (ao : Option Addr) (l c : Nat) (ex z f : Int) (o : Bool) (hf : (f != 0) = true) (w : World)
  (KR : Hid (∀ u,Kept w u → Calls Tryz.prog 124 #[.agg #[.bool ng,.slice ao l c,.int .i64 ex],.int .i64 n,.int .i64 1] u fun e w' => e = .returned (.tuple #[.int .i64 z,.bool o,.int .i64 f]) ∧ Kept u w')) :
  Calls Tryz.prog 79 #[.agg #[.bool ng,.slice ao l c,.int .i64 ex],.int .i64 n] w fun e w' => e = .returned (.tuple #[fv2 0 0,.int .i64 f]) ∧ Kept w w':=by
 have hSF:=sto_f
 obtain ⟨X,hX⟩ : ∃ X,X = (w.alloc (.cells #[.bool ng,.slice ao l c,.int .i64 ex] 26)).alloc (.cells #[.float .f64 0,.float .f64 0] 87):=⟨_,rfl⟩
 have hK : Kept w X:=by rw [hX]; exact ((Kept.refl w).alloc _ _).alloc _ _
 have hN : P3 X w.heap.size (.bool ng) (.slice ao l c) (.int .i64 ex):=by
  rw [hX]
  exact (P3.new w _ _ _ _).alloc _ _
 have hR : P2 X (w.heap.size + 1) (.float .f64 0) (.float .f64 0):=by
  rw [hX]
  have:=P2.new (w.alloc (.cells #[.bool ng,.slice ao l c,.int .i64 ex] 26)) (.float .f64 0) (.float .f64 0) 87
  simpa using this
 obtain ⟨H0,hH0⟩ : ∃ H,H = w.heap.size:=⟨_,rfl⟩
 obtain ⟨H1,hH1⟩ : ∃ H,H = H0 + 1:=⟨_,rfl⟩
 rw [← hH0] at hN hR
 rw [← hH1] at hR
 have o1' : w.heap.size ≤ H1:=by omega
 go_enter Tryz.func79,Tryz.ntmps79
 go_upto_region 1 with fail
 rw [← hX,← hH0,← hH1]
 clear hX hH0 hH1
 obtain ⟨c0,c1,c2⟩:=hN
 go_upto_region 2 with (first | (go_at_call 124; refine (KR.out _ hK).mono ?_; rintro e w1 ⟨rfl,k1⟩))
 have hz:=(hR.kept k1).put (.float .f64 0) (.float .f64 0)
 obtain ⟨d0,d1,df⟩:=hR.kept k1
 obtain ⟨e0,e1,ef⟩:=hz
 clear c0 c1 c2
 go_wp2_with fail
 exact bodyPost_ret (v:=.tuple #[fv2 0 0,.int .i64 f]) (by simp [results,Tryz.results79,go_sem,e0,e1]) rfl ⟨rfl,((hK.trans k1).setCell o1' _).setCell o1' _⟩
theorem saround_bad (n : Int) (x : Nm) (hR : Rg x.mag) (hl : x.mag.length < 60000000) (hf : FE n 1 (vld x) ≠ 0) (ao : Option Addr) (c : Nat) (u : World) (hT : Tab u) (h : Sl u (.slice ao x.mag.length c) x.mag) : Calls Tryz.prog 79 #[.agg #[.bool x.neg,.slice ao x.mag.length c,.int .i64 x.exp],.int .i64 n] u fun e w' => e = .returned (.tuple #[fv2 0 0,.int .i64 (FE n 1 (vld x))]) ∧ Kept u w' :=
 saround_no n x.neg ao x.mag.length c x.exp 0 _ false (by simpa using hf) u (fun v k => round_ans n 1 x hR hl ao c v (hT.kept k) (h.kept k) 0 false _ rfl (fun _ => ⟨rfl,rfl⟩) (fun g => absurd g hf))
theorem fe_zero (n : Int) (ok : Bool) : (FE n 1 ok = 0 ↔ (n = 64 ∨ n = 32) ∧ ok = true):=by
 unfold FE
 by_cases hn : n = 64 ∨ n = 32
 ·rw [if_pos hn,if_neg (by decide)]
  cases ok <;> simp [hn]
 ·rw [if_neg hn]
  simp [hn]
theorem saround5 (n : Int) (x : Nm) (hR : Rg x.mag) (hl : x.mag.length < 60000000) (ao : Option Addr) (c : Nat) (w : World) (hT : Tab w) (h : Sl w (.slice ao x.mag.length c) x.mag) : Calls Tryz.prog 33 #[.agg #[.bool x.neg,.slice ao x.mag.length c,.int .i64 x.exp],.int .i64 n] w fun e w' => e = .returned (.tuple #[if FE n 1 (vld x) = 0 then sp2 (pz n (kyN n 1 x)) (pz n (kyN n 2 x)) else sp2 0 0,.int .i64 (FE n 1 (vld x))]) ∧ Kept w w':=by
 by_cases hf : FE n 1 (vld x) = 0
 ·rw [if_pos hf]
  obtain ⟨hn,hv⟩:=(fe_zero n _).1 hf
  have:=Around_ok n hn x hv ao c w hT h
  rw [hf]
  exact this
 ·rw [if_neg hf]
  exact Around_walk n _ _ _ 0 0 _ _ _ rfl rfl rfl w (fun u k => saround_bad n x hR hl hf ao c u (hT.kept k) (h.kept k)) (fun u => told_err5 _ _ n _ (by simpa using hf) u)
theorem has_no5 (a1 b1 n q : Int) (hq : (q != 0) = true) (ng : Bool) (ao : Option Addr) (l c : Nat) (ex : Int) (x1 y1 : Nat) (w : World)
  (KO : Hid (∀ u,Calls Tryz.prog 73 #[sp2 a1 b1,.int .i64 n] u fun e w' => e = .returned (.tuple #[fv2 x1 y1,.int .i64 q]) ∧ Kept u w')) :
  Calls Tryz.prog 25 #[sp2 a1 b1,.agg #[.bool ng,.slice ao l c,.int .i64 ex],.int .i64 n] w fun e w' => e = .returned (.tuple #[.bool false,.int .i64 q]) ∧ Kept w w':=by
 have hSF:=sto_f
 obtain ⟨X,hX⟩ : ∃ X,X = (w.alloc (.cells #[.int .i64 a1,.int .i64 b1] 23)).alloc (.cells #[.bool ng,.slice ao l c,.int .i64 ex] 26):=⟨_,rfl⟩
 have hK : Kept w X:=by rw [hX]; exact ((Kept.refl w).alloc _ _).alloc _ _
 have hS : P2 X w.heap.size (.int .i64 a1) (.int .i64 b1):=by rw [hX]; exact (P2.new w _ _ _).alloc _ _
 obtain ⟨H0,hH0⟩ : ∃ H,H = w.heap.size:=⟨_,rfl⟩
 obtain ⟨H1,hH1⟩ : ∃ H,H = H0 + 1:=⟨_,rfl⟩
 rw [← hH0] at hS
 go_enter Tryz.func25,Tryz.ntmps25
 go_upto_region 1 with fail
 rw [← hX,← hH0,← hH1]
 clear hX hH0 hH1
 obtain ⟨c0,c1,cf⟩:=hS
 go_upto_region 2 with (first | (go_at_call 73; refine (KO.out _).mono ?_; rintro e w1 ⟨rfl,k1⟩))
 have kY:=k1.alloc #[.float .f64 x1,.float .f64 y1] 87
 clear c0 c1 cf
 go_wp2_with fail
 exact bodyPost_ret (v:=.tuple #[.bool false,.int .i64 q]) (by simp [results,Tryz.results25,go_sem]) rfl ⟨rfl,hK.trans kY⟩
theorem has_na5 (a1 b1 n q : Int) (hq : (q == 0) = false) (ng : Bool) (ao : Option Addr) (l c : Nat) (ex : Int) (x1 y1 z1 z2 : Nat) (w : World)
  (KO : Hid (∀ u,Calls Tryz.prog 73 #[sp2 a1 b1,.int .i64 n] u fun e w' => e = .returned (.tuple #[fv2 x1 y1,.int .i64 0]) ∧ Kept u w'))
  (KA : Hid (∀ u,Kept w u → Calls Tryz.prog 79 #[.agg #[.bool ng,.slice ao l c,.int .i64 ex],.int .i64 n] u fun e w' => e = .returned (.tuple #[fv2 z1 z2,.int .i64 q]) ∧ Kept u w')) :
  Calls Tryz.prog 25 #[sp2 a1 b1,.agg #[.bool ng,.slice ao l c,.int .i64 ex],.int .i64 n] w fun e w' => e = .returned (.tuple #[.bool false,.int .i64 q]) ∧ Kept w w':=by
 have hSF:=sto_f
 obtain ⟨X,hX⟩ : ∃ X,X = (w.alloc (.cells #[.int .i64 a1,.int .i64 b1] 23)).alloc (.cells #[.bool ng,.slice ao l c,.int .i64 ex] 26):=⟨_,rfl⟩
 have hK : Kept w X:=by rw [hX]; exact ((Kept.refl w).alloc _ _).alloc _ _
 have hS : P2 X w.heap.size (.int .i64 a1) (.int .i64 b1):=by rw [hX]; exact (P2.new w _ _ _).alloc _ _
 have hN : P3 X (w.heap.size + 1) (.bool ng) (.slice ao l c) (.int .i64 ex):=by
  rw [hX]
  have:=P3.new (w.alloc (.cells #[.int .i64 a1,.int .i64 b1] 23)) (.bool ng) (.slice ao l c) (.int .i64 ex) 26
  simpa using this
 obtain ⟨H0,hH0⟩ : ∃ H,H = w.heap.size:=⟨_,rfl⟩
 obtain ⟨H1,hH1⟩ : ∃ H,H = H0 + 1:=⟨_,rfl⟩
 rw [← hH0] at hS hN
 rw [← hH1] at hN
 go_enter Tryz.func25,Tryz.ntmps25
 go_upto_region 1 with fail
 rw [← hX,← hH0,← hH1]
 clear hX hH0 hH1
 obtain ⟨c0,c1,cf⟩:=hS
 go_upto_region 2 with (first | (go_at_call 73; refine (KO.out _).mono ?_; rintro e w1 ⟨rfl,k1⟩))
 have kY:=k1.alloc #[.float .f64 x1,.float .f64 y1] 87
 obtain ⟨Y,hY⟩ : ∃ Y,Y = w1.alloc (.cells #[.float .f64 x1,.float .f64 y1] 87):=⟨_,rfl⟩
 rw [← hY] at kY
 rw [← hY]
 have kw:=hK.trans kY
 clear hY c0 c1 cf KO
 obtain ⟨c0,c1,c2⟩:=hN.kept kY
 go_upto_region 5 with (first | (go_at_call 79; refine (KA.out _ kw).mono ?_; rintro e w2 ⟨rfl,k2⟩))
 have kZ:=k2.alloc #[.float .f64 z1,.float .f64 z2] 87
 clear c0 c1 c2
 go_wp2_with fail
 exact bodyPost_ret (v:=.tuple #[.bool false,.int .i64 q]) (by simp [results,Tryz.results25,go_sem]) rfl ⟨rfl,kw.trans kZ⟩
theorem shas5 (lo hi n : Int) (h1 : RB lo) (h2 : RB hi) (x : Nm) (hR : Rg x.mag) (hl : x.mag.length < 60000000) (ao : Option Addr) (c : Nat) (w : World) (hT : Tab w) (h : Sl w (.slice ao x.mag.length c) x.mag) : Calls Tryz.prog 25 #[sp2 lo hi,.agg #[.bool x.neg,.slice ao x.mag.length c,.int .i64 x.exp],.int .i64 n] w fun e w' => e = .returned (.tuple #[.bool (vsp lo hi n && vld x && decide (keyOf lo n ≤ kyN n 1 x ∧ kyN n 2 x ≤ keyOf hi n)),.int .i64 (if vsp lo hi n = true then FE n 1 (vld x) else opE lo hi n)]) ∧ Kept w w':=by
 cases hv : vsp lo hi n
 ·rw [if_neg (by simp),Bool.false_and,Bool.false_and]
  exact has_no5 lo hi n _ (opE_nz lo hi n hv) x.neg ao _ c x.exp 0 0 w (fun u => opened_bad lo hi n h1 h2 hv u)
 ·rw [if_pos rfl,Bool.true_and]
  obtain ⟨i1,i2,-⟩:=vsp_num _ _ _ hv
  have hn:=isnum_wid _ _ i1
  cases hx : vld x
  ·have hf : FE n 1 (vld x) ≠ 0:=fun g => by
    have:=((fe_zero n _).1 g).2
    rw [hx] at this
    cases this
   rw [Bool.false_and]
   obtain ⟨f1,f2,KO⟩:=opened_ok lo hi n h1 h2 hv
   have:=has_na5 lo hi n (FE n 1 (vld x)) (by simpa using hf) x.neg ao x.mag.length c x.exp _ _ 0 0 w KO (fun u k => saround_bad n x hR hl hf ao c u (hT.kept k) (h.kept k))
   rw [hx] at this
   exact this
  ·have hf : FE n 1 true = 0:=(fe_zero n _).2 ⟨hn,rfl⟩
   rw [Bool.true_and,hf]
   exact has5_ok lo hi n h1 h2 hv x hx ao c w hT h
theorem point_no5 (lo hi n q : Int) (hq : (q == 0) = false) (x y : Nat) (w : World)
  (KO : Hid (∀ u,Calls Tryz.prog 73 #[sp2 lo hi,.int .i64 n] u fun e w' => e = .returned (.tuple #[fv2 x y,.int .i64 q]) ∧ Kept u w')) :
  Calls Tryz.prog 35 #[sp2 lo hi,.int .i64 n] w fun e w' => e = .returned (.tuple #[.bool false,.int .i64 q]) ∧ Kept w w':=by
 have hSF:=sto_f
 go_enter Tryz.func35,Tryz.ntmps35
 go_upto_region 2 with (first | (go_at_call 73; refine (KO.out _).mono ?_; rintro e w1 ⟨rfl,k1⟩))
 have j1:=(((Kept.refl w).alloc #[.int .i64 lo,.int .i64 hi] 23).trans k1).alloc #[.float .f64 x,.float .f64 y] 87
 obtain ⟨Y,hY⟩ : ∃ Y,Y = w1.alloc (.cells #[.float .f64 x,.float .f64 y] 87):=⟨_,rfl⟩
 rw [← hY] at j1
 rw [← hY]
 clear hY KO k1
 refine wp_region_late [] (fun u => Kept Y u) (by kernel_rfl) ((Kept.refl Y).drew) (fun hHeld => ?_)
 refine tkD (i:=0) (v:=?_) rfl hHeld ?_
 (try simp only [Act.put,zA,zB,zC,zD,zE,zF])
 refine tkD (i:=1) (v:=?_) rfl hHeld ?_
 (try simp only [Act.put,zA,zB,zC,zD,zE,zF])
 refine tkD (i:=2) (v:=?_) rfl hHeld ?_
 (try simp only [Act.put,zA,zB,zC,zD,zE,zF])
 (try simp only [hq])
 refine wpAnyD_take (i:=3) (v:=undef) rfl (by kernel_rfl) (by kernel_rfl) (by kernel_rfl) (by kernel_rfl) (fun _ _ _ h => h) (Or.inr ⟨by rfl,rfl⟩) hHeld ?_
 (try simp only [Act.put,zA,zB,zC,zD,zE,zF])
 refine wpAnyD_take (i:=4) (v:=undef) rfl (by kernel_rfl) (by kernel_rfl) (by kernel_rfl) (by kernel_rfl) (fun _ _ _ h => h) (Or.inr ⟨by rfl,rfl⟩) hHeld ?_
 (try simp only [Act.put,zA,zB,zC,zD,zE,zF])
 refine wpAnyD_take (i:=5) (v:=undef) rfl (by kernel_rfl) (by kernel_rfl) (by kernel_rfl) (by kernel_rfl) (fun _ _ _ h => h) (Or.inr ⟨by rfl,rfl⟩) hHeld ?_
 (try simp only [Act.put,zA,zB,zC,zD,zE,zF])
 refine wpAnyD_take (i:=6) (v:=undef) rfl (by kernel_rfl) (by kernel_rfl) (by kernel_rfl) (by kernel_rfl) (fun _ _ _ h => h) (Or.inr ⟨by rfl,rfl⟩) hHeld ?_
 (try simp only [Act.put,zA,zB,zC,zD,zE,zF])
 refine wpAnyD_take (i:=7) (v:=undef) rfl (by kernel_rfl) (by kernel_rfl) (by kernel_rfl) (by kernel_rfl) (fun _ _ _ h => h) (Or.inr ⟨by rfl,rfl⟩) hHeld ?_
 (try simp only [Act.put,zA,zB,zC,zD,zE,zF])
 refine tkD (i:=8) (v:=?_) rfl hHeld ?_
 (try simp only [Act.put,zA,zB,zC,zD,zE,zF])
 refine tkD (i:=9) (v:=?_) rfl hHeld ?_
 (try simp only [Act.put,zA,zB,zC,zD,zE,zF])
 refine tkD (i:=10) (v:=?_) rfl hHeld ?_
 (try simp only [Act.put,zA,zB,zC,zD,zE,zF])
 refine tkD (i:=11) (v:=?_) rfl hHeld ?_
 (try simp only [Act.put,zA,zB,zC,zD,zE,zF])
 refine wpAnyD_done (by kernel_rfl) ?_ _
 (try simp only [Act.put,zA,zB,zC,zD,zE,zF])
 go_wp2_with fail
 exact bodyPost_ret (v:=.tuple #[.bool false,.int .i64 q]) (by simp [results,Tryz.results35,go_sem]) rfl ⟨rfl,j1.trans hHeld⟩
theorem spoint5 (lo hi n : Int) (h1 : RB lo) (h2 : RB hi) (w : World) : Calls Tryz.prog 35 #[sp2 lo hi,.int .i64 n] w fun e w' => e = .returned (.tuple #[.bool (vsp lo hi n && decide (keyOf lo n = keyOf hi n)),.int .i64 (opE lo hi n)]) ∧ Kept w w':=by
 cases hv : vsp lo hi n
 ·rw [Bool.false_and]
  have h0:=opE_nz lo hi n hv
  exact point_no5 lo hi n _ (by simpa using h0) 0 0 w (fun u => opened_bad lo hi n h1 h2 hv u)
 ·rw [Bool.true_and,(opE_zero lo hi n).2 hv]
  exact Point_ok lo hi n h1 h2 hv w
end Go.Proofs.YtdhimkpfnhoagaaGreatDoor
