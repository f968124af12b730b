/- Package span: Has; the laws' own has. Package span: Sum of valid intervals. Package span: sums,products,quotients of smaller intervals are smaller: by keys alone. Package span: quotients of smaller intervals are smaller: by keys alone. Package span's laws: within; keys of what lies places below and above. Package span: Div. Intervals around finite floats,by keys. Package span: Sum of three; what holds an exact number,by keys. The document's intervals,by keys: Valid,Neg,Point,Around,Has,Single. -/
import Derived.Test.YtdhimkpfnhoagaaGreatDoorWo47
import Derived.Test.YtdhimkpfnhoagaaGreatDoorWo45
import Derived.Laws.MakeOwn
import Derived.Test.YtdhimkpfnhoagaaGreatDoorWo44
import Derived.Test.YtdhimkpfnhoagaaGreatDoorWo37
namespace Go.Proofs.YtdhimkpfnhoagaaGreatDoor
open Go.ChangeShapes Go.WideShapes Go.ChangeAt Go.RowKit Ieee
set_option linter.unusedVariables false
set_option linter.unusedSimpArgs false
set_option maxHeartbeats 16000000
set_option maxRecDepth 100000
theorem has_walk5 (a1 b1 n : Int) (ng : Bool) (ao : Option Addr) (l c : Nat) (ex : Int) (x1 y1 z1 z2 : Nat) (b : Bool) (w : World)
  (KO : Hid (∀ u,Calls Tryz.prog 73 #[sp2 a1 b1,.int .i64 n] u fun e w' => e = .returned (.tuple #[fv2 x1 y1,.int .i64 0]) ∧ Kept u w'))
  (KA : Hid (∀ u,Kept w u → Calls Tryz.prog 79 #[.agg #[.bool ng,.slice ao l c,.int .i64 ex],.int .i64 n] u fun e w' => e = .returned (.tuple #[fv2 z1 z2,.int .i64 0]) ∧ Kept u w'))
  (KH : Hid (∀ u,Calls Tryz.prog 76 #[fv2 x1 y1,fv2 z1 z2] u fun e w' => e = .returned (.bool b) ∧ Kept u w')) :
  Calls Tryz.prog 25 #[sp2 a1 b1,.agg #[.bool ng,.slice ao l c,.int .i64 ex],.int .i64 n] w fun e w' => e = .returned (.tuple #[.bool b,.int .i64 0]) ∧ Kept w w':=by
 have hSF:=sto_f
 obtain ⟨X,hX⟩ : ∃ X,X = (w.alloc (.cells #[.int .i64 a1,.int .i64 b1] 23)).alloc (.cells #[.bool ng,.slice ao l c,.int .i64 ex] 26):=⟨_,rfl⟩
 have hK : Kept w X:=by
  rw [hX]
  exact ((Kept.refl w).alloc _ _).alloc _ _
 have hS : P2 X w.heap.size (.int .i64 a1) (.int .i64 b1):=by
  rw [hX]
  exact (P2.new w _ _ _).alloc _ _
 have hN : P3 X (w.heap.size + 1) (.bool ng) (.slice ao l c) (.int .i64 ex):=by
  rw [hX]
  have:=P3.new (w.alloc (.cells #[.int .i64 a1,.int .i64 b1] 23)) (.bool ng) (.slice ao l c) (.int .i64 ex) 26
  simpa using this
 obtain ⟨H0,hH0⟩ : ∃ H,H = w.heap.size:=⟨_,rfl⟩
 obtain ⟨H1,hH1⟩ : ∃ H,H = H0 + 1:=⟨_,rfl⟩
 rw [← hH0] at hS hN
 rw [← hH1] at hN
 go_enter Tryz.func25,Tryz.ntmps25
 go_upto_region 1 with fail
 rw [← hX,← hH0,← hH1]
 clear hX hH0 hH1
 obtain ⟨c0,c1,cf⟩:=hS
 go_upto_region 2 with (first | (go_at_call 73; refine (KO.out _).mono ?_; rintro e w1 ⟨rfl,k1⟩))
 clear c0 c1 cf KO
 have hI:=P2.new w1 (.float .f64 x1) (.float .f64 y1) 87
 have kY:=k1.alloc #[.float .f64 x1,.float .f64 y1] 87
 obtain ⟨Y,hY⟩ : ∃ Y,Y = w1.alloc (.cells #[.float .f64 x1,.float .f64 y1] 87):=⟨_,rfl⟩
 obtain ⟨B,hB⟩ : ∃ B,B = w1.heap.size:=⟨_,rfl⟩
 rw [← hY] at hI kY
 rw [← hB] at hI
 rw [← hY,← hB]
 clear hY hB k1
 have kw:=hK.trans kY
 obtain ⟨c0,c1,c2⟩:=hN.kept kY
 clear hN kY hK
 go_upto_region 5 with (first | (go_at_call 79; refine (KA.out _ kw).mono ?_; rintro e w2 ⟨rfl,k2⟩))
 clear c0 c1 c2 KA
 have hJ:=P2.new w2 (.float .f64 z1) (.float .f64 z2) 87
 have kZ:=k2.alloc #[.float .f64 z1,.float .f64 z2] 87
 obtain ⟨Z,hZ⟩ : ∃ Z,Z = w2.alloc (.cells #[.float .f64 z1,.float .f64 z2] 87):=⟨_,rfl⟩
 obtain ⟨C,hC⟩ : ∃ C,C = w2.heap.size:=⟨_,rfl⟩
 rw [← hZ] at hJ kZ
 rw [← hC] at hJ
 rw [← hZ,← hC]
 clear hZ hC k2
 obtain ⟨a0,a1',af⟩:=hI.kept kZ
 obtain ⟨b0,b1',bf⟩:=hJ
 have kw:=kw.trans kZ
 clear hI kZ
 go_wp2_with (first | (go_at_call 76; refine (KH.out _).mono ?_; rintro e w3 ⟨rfl,k3⟩))
 exact bodyPost_ret (v:=.tuple #[.bool b,.int .i64 0]) (by simp [results,Tryz.results25,go_sem]) rfl ⟨rfl,kw.trans k3⟩
theorem around_fl (n : Int) (hn : n = 64 ∨ n = 32) (r : Nm) (hv : vld r = true) (ao : Option Addr) (c : Nat) (u : World) (hT : Tab u) (h : Sl u (.slice ao r.mag.length c) r.mag) : Calls Tryz.prog 79 #[.agg #[.bool r.neg,.slice ao r.mag.length c,.int .i64 r.exp],.int .i64 n] u fun e w' => e = .returned (.tuple #[fv2 (flv (rzN n 1 r) n) (flv (rzN n 2 r) n),.int .i64 0]) ∧ Kept u w':=by
 refine saround_ok n r.neg ao r.mag.length c r.exp (rzN n 1 r) (rzN n 2 r) (oxN n 1 r) (oxN n 2 r) _ _ u (fun v way z o kv hz => ?_) (fun v z x hz => ?_)
 ·rcases hz with ⟨rfl,rfl,rfl⟩ | ⟨rfl,rfl,rfl⟩
  ·exact roundz n 1 hn (by simp) r hv ao c v (hT.kept kv) (h.kept kv)
  ·exact roundz n 2 hn (by simp) r hv ao c v (hT.kept kv) (h.kept kv)
 ·rcases hz with ⟨rfl,rfl⟩ | ⟨rfl,rfl⟩
  ·exact sfloat_any _ n (rz_rng n 1 hn r).1 (rz_rng n 1 hn r).2 v
  ·exact sfloat_any _ n (rz_rng n 2 hn r).1 (rz_rng n 2 hn r).2 v
theorem has5_ok (a1 b1 n : Int) (s1 : RB a1) (s2 : RB b1) (hv : vsp a1 b1 n = true) (r : Nm) (hr : vld r = true) (ao : Option Addr) (c : Nat) (w : World) (hT : Tab w) (h : Sl w (.slice ao r.mag.length c) r.mag) : Calls Tryz.prog 25 #[sp2 a1 b1,.agg #[.bool r.neg,.slice ao r.mag.length c,.int .i64 r.exp],.int .i64 n] w fun e w' => e = .returned (.tuple #[.bool (decide (keyOf a1 n ≤ kyN n 1 r ∧ kyN n 2 r ≤ keyOf b1 n)),.int .i64 0]) ∧ Kept w w':=by
 obtain ⟨i1,i2,-⟩:=vsp_num _ _ _ hv
 have hn:=isnum_wid _ _ i1
 obtain ⟨f1,f2,KO⟩:=opened_ok a1 b1 n s1 s2 hv
 have g1:=rz_fl n 1 hn r
 have g2:=rz_fl n 2 hn r
 exact has_walk5 a1 b1 n r.neg ao r.mag.length c r.exp _ _ _ _ _ w KO (fun u k => around_fl n hn r hr ao c u (hT.kept k) (h.kept k)) (fun u => holds_any n _ _ _ _ _ _ _ _ f1 f2 g1 g2 u)
/-- a block of intervals,of which the first k are told -/
structure Ar2 (w : World) (D m k : Nat) (fx fy : Nat → Nat) : Prop where
 lt : D < w.heap.size
 ex : ∀ o,o < m * 2 → ∃ v,w.cell? ⟨D,o,none⟩ = some v
 fz : ∀ o,w.frozen? ⟨D,o,none⟩ = false
 c0 : ∀ i,i < k → w.cell? ⟨D,i * 2,none⟩ = some (.float .f64 (fx i))
 c1 : ∀ i,i < k → w.cell? ⟨D,i * 2 + 1,none⟩ = some (.float .f64 (fy i))
theorem Ar2.kept {w u : World} {D m k : Nat} {fx fy : Nat → Nat} (h : Ar2 w D m k fx fy) (kk : Kept w u) : Ar2 u D m k fx fy :=
 ⟨Nat.lt_of_lt_of_le h.lt kk.below.size,fun o ho => by obtain ⟨v,hv⟩:=h.ex o ho; exact ⟨v,(kk.below.cell (p:=⟨D,o,none⟩) h.lt).trans hv⟩,fun o => (kk.frozen _).trans (h.fz o),fun i hi => (kk.below.cell (p:=⟨D,i * 2,none⟩) h.lt).trans (h.c0 i hi),fun i hi => (kk.below.cell (p:=⟨D,i * 2 + 1,none⟩) h.lt).trans (h.c1 i hi)⟩
theorem cell_set (w : World) (D o p : Nat) (v : Value) (h : ∃ x,w.cell? ⟨D,o,none⟩ = some x) : (w.setCell ⟨D,o,none⟩ v).cell? ⟨D,p,none⟩ = if p = o then some v else w.cell? ⟨D,p,none⟩:=by
 obtain ⟨x,hx⟩:=h
 by_cases hp : p = o
 ·subst hp
  simp [go_sem,hx]
 ·have hq : ¬ o = p:=fun e => hp e.symm
  simp [go_sem,hp,hq]
theorem Ar2.put {w : World} {D m k : Nat} {fx fy : Nat → Nat} (h : Ar2 w D m k fx fy) (hk : k < m) : Ar2 ((w.setCell ⟨D,k * 2,none⟩ (.float .f64 (fx k))).setCell ⟨D,k * 2 + 1,none⟩ (.float .f64 (fy k))) D m (k + 1) fx fy:=by
 have e1:=h.ex (k * 2) (by omega)
 have e2 : ∃ v,(w.setCell ⟨D,k * 2,none⟩ (.float .f64 (fx k))).cell? ⟨D,k * 2 + 1,none⟩ = some v:=by
  obtain ⟨v,hv⟩:=h.ex (k * 2 + 1) (by omega)
  exact ⟨v,by rw [cell_set _ _ _ _ _ e1,if_neg (by omega),hv]⟩
 refine ⟨by simp; exact h.lt,fun o ho => ?_,fun o => by simp [World.frozen?_setCell,h.fz],fun i hi => ?_,fun i hi => ?_⟩
 ·rw [cell_set _ _ _ _ _ e2,cell_set _ _ _ _ _ e1]
  split
  ·exact ⟨_,rfl⟩
  ·split
   ·exact ⟨_,rfl⟩
   ·exact h.ex o ho
 ·rw [cell_set _ _ _ _ _ e2,cell_set _ _ _ _ _ e1,if_neg (by omega)]
  by_cases hik : i = k
  ·subst hik; rw [if_pos rfl]
  ·rw [if_neg (by omega)]; exact h.c0 i (by omega)
 ·rw [cell_set _ _ _ _ _ e2,cell_set _ _ _ _ _ e1]
  by_cases hik : i = k
  ·subst hik; rw [if_pos rfl]
  ·rw [if_neg (by omega),if_neg (by omega)]; exact h.c1 i (by omega)
theorem Ar2.made (m : Nat) (fx fy : Nat → Nat) (w : World) : Ar2 (w.alloc (.cells (madeCells #[.float .f64 0,.float .f64 0] (m * 2)) 87)) w.heap.size m 0 fx fy:=by
 refine ⟨by simp,fun o ho => ?_,fun o => by simp [go_sem],fun i hi => absurd hi (Nat.not_lt_zero _),fun i hi => absurd hi (Nat.not_lt_zero _)⟩
 rw [World.cell?_alloc_at _ _ _ _ rfl]
 have hs:=size_madeCells #[.float .f64 0,.float .f64 0] (m * 2)
 exact ⟨_,Array.getElem?_eq_getElem (by omega)⟩
/-- what is below H * H can be written,and finite floats are below H -/
structure HB (n H : Int) : Prop where
 one : 1 ≤ H
 fin : ∀ k,-(ifn n : Int) < k → k < (ifn n : Int) → -H < kvz n (-1074) k ∧ kvz n (-1074) k < H
 wrt : ∀ s z,(s = -1074 ∨ s = -2148) → -(H * H) < z → z < H * H → ∃ r,cfm z s = some r ∧ vld r = true ∧ (r.mag ≠ [] → s ≤ r.exp) ∧ vz s r = z
/- finite ends: by products -/
/- one divisor,two dividends -/
/- one dividend,two divisors of one sign -/
theorem of_ky (y n : Int) (hn : n = 64 ∨ n = 32) (hy : RB y) (hc : cls y n < 3) : kyN n 1 (ofN y n) = keyOf y n ∧ kyN n 2 (ofN y n) = keyOf y n:=by
 obtain ⟨-,i1,b1,b2⟩:=ofN_key y n hn hy hc
 obtain ⟨l1,z1⟩:=of_both_lies y n hn hy hc
 have hkl : (-1074 : Int) ≤ kleast n:=by rcases hn with rfl | rfl <;> decide
 have hz : vz (-1075) (ofN y n) = kvz n (-1075) (keyOf y n):=by
  rw [z1,kvz_down n (-1075) (-1074) _ (by decide) hkl]
  rfl
 obtain ⟨a1,a2,-⟩:=ky_float n hn (ofN y n) l1.ok (-1075) l1.low (by omega) _ b1 b2 hz
 exact ⟨a1,a2⟩
/- the sum of three ends -/
/- x + y - x is y -/
/- an interval that holds an exact number -/
end Go.Proofs.YtdhimkpfnhoagaaGreatDoor
namespace Go.Proofs.YtdhimkpfnhoagaaGreatDoor
open Go.ChangeShapes Go.WideShapes Go.ChangeAt Go.RowKit
set_option linter.unusedVariables false
set_option linter.unusedSimpArgs false
set_option maxHeartbeats 16000000
set_option maxRecDepth 100000
abbrev Top : Nat → Prop:=fun _ => True
/-- the end of a pattern -/
def PE (n b : Int) (w : World) (v : Value) : Prop:=EnAt Top w v (infS n (keyOf b n)) (numOf b n) oneN5
theorem PE.kept (n : Int) : ∀ b u u' v,PE n b u v → Kept u u' → PE n b u' v:=fun b u u' v h k => EnAt.kept h k
theorem rof6 (n b : Int) (hb : RB b) (hi : isnum b n = true) (u : World) : Calls Tryz.prog 88 #[.int .i64 b,.int .i64 n] u fun e w' => ∃ v,e = .returned v ∧ PE n b w' v ∧ Kept u w':=by
 refine (rof5 b n hb hi u).mono ?_
 rintro e w' ⟨⟨v,rfl,hv⟩,k⟩
 exact ⟨v,rfl,hv.imp (fun _ _ => trivial),k⟩
theorem num_vld (n b : Int) (hb : RB b) (hi : isnum b n = true) : vld (numOf b n) = true ∧ ((numOf b n).mag ≠ [] → -1075 ≤ (numOf b n).exp):=by
 have hn:=isnum_wid b n hi
 unfold numOf
 split
 ·next h =>
  obtain ⟨l,-⟩:=of_both_lies b n hn hb h
  exact ⟨l.ok,l.low⟩
 ·exact ⟨rfl,fun h => absurd rfl h⟩
theorem num_vz (n b s : Int) (hs : s ≤ -1075) (hb : RB b) (hi : isnum b n = true) : (infS n (keyOf b n) = 0 → vz s (numOf b n) = kvz n s (keyOf b n)) ∧ (infS n (keyOf b n) ≠ 0 → vz s (numOf b n) = 0):=by
 have hn:=isnum_wid b n hi
 obtain ⟨hc,h3⟩:=cls_key b n hb hi
 have hr:=key_rng b n hi hb.1 hb.2
 have hpos:=ifn_p n
 have hkl : (-1074 : Int) ≤ kleast n:=by rcases hn with rfl | rfl <;> decide
 refine ⟨fun h => ?_,fun h => ?_⟩
 ·have hk : -(ifn n : Int) < keyOf b n ∧ keyOf b n < (ifn n : Int):=by
   unfold infS at h
   (repeat' split at h) <;> omega
  have hcl:=hc.2 hk
  have e2 : numOf b n = ofN b n:=by unfold numOf; rw [if_pos hcl]
  obtain ⟨l1,z1⟩:=of_both_lies b n hn hb hcl
  rw [e2,vz_down s (-1075) _ hs l1.low,z1,kvz_down n s (-1075) _ hs (by omega),kvz_down n (-1075) (-1074) _ (by decide) hkl]
  rfl
 ·have hcl : ¬ cls b n < 3:=fun g => by
   have:=hc.1 g
   unfold infS at h
   (repeat' split at h) <;> omega
  unfold numOf
  rw [if_neg hcl]
  exact vz_nil _ _ _
theorem tk_key (n way b : Int) (hw : way = 1 ∨ way = 2) (hb : RB b) (hi : isnum b n = true) : Tk n way (infS n (keyOf b n)) (numOf b n) = keyOf b n:=by
 have hn:=isnum_wid b n hi
 obtain ⟨hc,h3⟩:=cls_key b n hb hi
 have hr:=key_rng b n hi hb.1 hb.2
 have hpos:=ifn_p n
 unfold Tk infS
 by_cases h1 : keyOf b n = (ifn n : Int)
 ·rw [if_pos h1,if_pos (by decide),h1]
 ·rw [if_neg h1]
  by_cases h2 : keyOf b n = -(ifn n : Int)
  ·rw [if_pos h2,if_neg (by decide),if_pos (by decide),h2]
  ·rw [if_neg h2,if_neg (by decide),if_neg (by decide)]
   have hcl:=hc.2 (by omega)
   have e2 : numOf b n = ofN b n:=by unfold numOf; rw [if_pos hcl]
   rw [e2]
   obtain ⟨a1,a2⟩:=of_ky b n hn hb hcl
   rcases hw with rfl | rfl
   ·exact a1
   ·exact a2
theorem rmade5 (n : Int) (hn : n = 64 ∨ n = 32) (i1 i2 : Int) (x1 x2 : Nm) (hi1 : i1 = -1 ∨ i1 = 0 ∨ i1 = 1) (hi2 : i2 = -1 ∨ i2 = 0 ∨ i2 = 1) (h1 : vld x1 = true) (h2 : vld x2 = true) (v1 v2 : Value) (u : World) (e1 : EnAt Top u v1 i1 x1 oneN5) (e2 : EnAt Top u v2 i2 x2 oneN5) : Calls Tryz.prog 94 #[v1,v2,.int .i64 n] u fun e w' => e = .returned (.agg #[.int .i64 (pz n (Tk n 1 i1 x1)),.int .i64 (pz n (Tk n 2 i2 x2))]) ∧ Kept u w':=by
 have g1:=e1
 have g2:=e2
 obtain ⟨n1,a1,l1,c1,y1,m1,b1,k1,d1,z1,rfl⟩:=e1.shape
 obtain ⟨n2,a2,l2,c2,y2,m2,b2,k2,d2,z2,rfl⟩:=e2.shape
 exact rmade_walk n _ _ i1 n1 a1 l1 c1 y1 m1 b1 k1 d1 z1 i2 n2 a2 l2 c2 y2 m2 b2 k2 d2 z2 u (fun w k => rtold_one Top n 1 hn (.inr (.inl rfl)) _ i1 x1 hi1 h1 w (g1.kept k)) (fun w k => rtold_one Top n 2 hn (.inr (.inr rfl)) _ i2 x2 hi2 h2 w (g2.kept k))
theorem rnan5 (b n : Int) (hb : RB b) (w : World) : Calls Tryz.prog 87 #[.int .i64 b,.int .i64 n] w fun e w' => e = .returned (.bool (cls b n == 4)) ∧ Kept w w':=by
 have K : Hid (∀ u,Calls Tryz.prog 92 #[.int .i64 b,.int .i64 n] u fun e w' => e = .returned (.int .i64 (cls b n)) ∧ Kept u w'):=fun u => rclass_any b n hb.1 hb.2 u
 generalize cls b n = c at *
 go_enter Tryz.func87,Tryz.ntmps87
 go_wp2_with (first | (go_at_call 92; refine (K.out _).mono ?_; rintro e w1 ⟨rfl,k1⟩))
 go_ret
 exact ⟨rfl,k1⟩
/- two ends' order,by keys -/
theorem rord_keys (n a b : Int) (ha : RB a) (hb : RB b) (ia : isnum a n = true) (ib : isnum b n = true) (v1 v2 : Value) (u : World) (e1 : PE n a u v1) (e2 : PE n b u v2) : Calls Tryz.prog 89 #[v1,v2] u fun e w' => e = .returned (.int .i64 (cz (keyOf a n) (keyOf b n))) ∧ Kept u w':=by
 have hn:=isnum_wid a n ia
 obtain ⟨va,la⟩:=num_vld n a ha ia
 obtain ⟨vb,lb⟩:=num_vld n b hb ib
 obtain ⟨T,hT⟩ : ∃ T : Int,T = (vz (-1075) (numOf a n)).natAbs + (vz (-1075) (numOf b n)).natAbs + 1:=⟨_,rfl⟩
 have:=rorder5 Top v1 v2 _ _ _ _ (-1075) T (infS_is n _) (infS_is n _) va vb la lb (by omega) (by omega) u e1 e2
 obtain ⟨a1,a2⟩:=num_vz n a (-1075) (by decide) ha ia
 obtain ⟨b1,b2⟩:=num_vz n b (-1075) (by decide) hb ib
 have ra:=key_rng a n ia ha.1 ha.2
 have rb:=key_rng b n ib hb.1 hb.2
 have hpos:=ifn_p n
 have e : cz (Rh T (-1075) (infS n (keyOf a n)) (numOf a n)) (Rh T (-1075) (infS n (keyOf b n)) (numOf b n)) = cz (keyOf a n) (keyOf b n):=by
  have ord : ∀ p q : Int,p < q → kvz n (-1075) p < kvz n (-1075) q:=fun p q h => kvz_lt n (-1075) hn p q h
  obtain ⟨c1,c2,c3⟩:=cz_cases5 (keyOf a n) (keyOf b n)
  obtain ⟨d1,d2,d3⟩:=cz_cases5 (Rh T (-1075) (infS n (keyOf a n)) (numOf a n)) (Rh T (-1075) (infS n (keyOf b n)) (numOf b n))
  have fa : Rh T (-1075) (infS n (keyOf a n)) (numOf a n) = if keyOf a n = (ifn n : Int) then T else if keyOf a n = -(ifn n : Int) then -T else kvz n (-1075) (keyOf a n):=by
   unfold Rh infS at *
   by_cases h1 : keyOf a n = (ifn n : Int)
   ·simp [h1]
   ·by_cases h2 : keyOf a n = -(ifn n : Int)
    ·simp only [if_neg h1,if_pos h2]
     simp
    ·simp only [if_neg h1,if_neg h2] at a1 ⊢
     simpa using a1
  have fb : Rh T (-1075) (infS n (keyOf b n)) (numOf b n) = if keyOf b n = (ifn n : Int) then T else if keyOf b n = -(ifn n : Int) then -T else kvz n (-1075) (keyOf b n):=by
   unfold Rh infS at *
   by_cases h1 : keyOf b n = (ifn n : Int)
   ·simp [h1]
   ·by_cases h2 : keyOf b n = -(ifn n : Int)
    ·simp only [if_neg h1,if_pos h2]
     simp
    ·simp only [if_neg h1,if_neg h2] at b1 ⊢
     simpa using b1
  have ba : keyOf a n ≠ (ifn n : Int) → keyOf a n ≠ -(ifn n : Int) → -T < kvz n (-1075) (keyOf a n) ∧ kvz n (-1075) (keyOf a n) < T:=fun g1 g2 => by
   have:=a1 (by unfold infS; rw [if_neg g1,if_neg g2])
   omega
  have bb : keyOf b n ≠ (ifn n : Int) → keyOf b n ≠ -(ifn n : Int) → -T < kvz n (-1075) (keyOf b n) ∧ kvz n (-1075) (keyOf b n) < T:=fun g1 g2 => by
   have:=b1 (by unfold infS; rw [if_neg g1,if_neg g2])
   omega
  have key : (keyOf a n < keyOf b n → Rh T (-1075) (infS n (keyOf a n)) (numOf a n) < Rh T (-1075) (infS n (keyOf b n)) (numOf b n)) ∧ (keyOf b n < keyOf a n → Rh T (-1075) (infS n (keyOf b n)) (numOf b n) < Rh T (-1075) (infS n (keyOf a n)) (numOf a n)) ∧ (keyOf a n = keyOf b n → Rh T (-1075) (infS n (keyOf a n)) (numOf a n) = Rh T (-1075) (infS n (keyOf b n)) (numOf b n)):=by
   rw [fa,fb]
   have oab:=ord (keyOf a n) (keyOf b n)
   have oba:=ord (keyOf b n) (keyOf a n)
   refine ⟨fun h => ?_,fun h => ?_,fun h => ?_⟩
   ·have:=oab h
    (repeat' split) <;> omega
   ·have:=oba h
    (repeat' split) <;> omega
   ·rw [h]
  rcases Int.lt_trichotomy (keyOf a n) (keyOf b n) with h | h | h
  ·rw [c1 h,d1 (key.1 h)]
  ·rw [c2 h,d2 (key.2.2 h)]
  ·rw [c3 h,d3 (key.2.1 h)]
 rw [e] at this
 exact this
theorem val_num (b n : Int) : isnum b n = (val b n && !(cls b n == 4)):=by
 rw [Bool.eq_iff_iff]
 unfold isnum val
 simp only [Bool.and_eq_true,Bool.not_eq_true',beq_eq_false_iff_ne,ne_eq,decide_eq_true_eq]
 constructor
 ·rintro ⟨h,h4⟩
  refine ⟨?_,h4⟩
  rcases h with rfl | rfl
  ·exact .inl rfl
  ·refine .inr ⟨rfl,?_⟩
   apply Classical.not_not.1
   intro hb
   apply h4
   unfold cls
   rw [if_neg (by decide),if_pos rfl,if_neg hb]
 ·rintro ⟨h,h4⟩
  exact ⟨by omega,h4⟩
theorem rvalid5 (lo hi n : Int) (h1 : RB lo) (h2 : RB hi) (w : World) : Calls Tryz.prog 30 #[.agg #[.int .i64 lo,.int .i64 hi],.int .i64 n] w fun e w' => e = .returned (.bool (vsp lo hi n)) ∧ Kept w w':=by
 have KV : Hid (∀ u b q,(b = lo ∧ q = val lo n ∨ b = hi ∧ q = val hi n) → Calls Tryz.prog 86 #[.int .i64 b,.int .i64 n] u fun e w' => e = .returned (.bool q) ∧ Kept u w'):=fun u b q h => by
  rcases h with ⟨rfl,rfl⟩ | ⟨rfl,rfl⟩
  ·exact rbvalid_any _ n h1.1 h1.2 u
  ·exact rbvalid_any _ n h2.1 h2.2 u
 have KN : Hid (∀ u b q,(b = lo ∧ q = (cls lo n == 4) ∨ b = hi ∧ q = (cls hi n == 4)) → Calls Tryz.prog 87 #[.int .i64 b,.int .i64 n] u fun e w' => e = .returned (.bool q) ∧ Kept u w'):=fun u b q h => by
  rcases h with ⟨rfl,rfl⟩ | ⟨rfl,rfl⟩
  ·exact rnan5 _ n h1 u
  ·exact rnan5 _ n h2 u
 have hval : ∀ b,isnum b n = (val b n && !(cls b n == 4)):=fun b => val_num b n
 by_cases hq : (!val lo n || (!val hi n || ((cls lo n == 4) || (cls hi n == 4)))) = true
 ·have hf : vsp lo hi n = false:=by
   apply vsp_nan
   rw [hval lo,hval hi]
   revert hq
   cases val lo n <;> cases val hi n <;> cases (cls lo n == 4) <;> cases (cls hi n == 4) <;> simp
  rw [hf]
  exact rvalid_no5 lo hi n _ _ _ _ hq w KV KN
 ·have hq1 : val lo n = true ∧ val hi n = true ∧ (cls lo n == 4) = false ∧ (cls hi n == 4) = false:=by
   revert hq
   cases val lo n <;> cases val hi n <;> cases (cls lo n == 4) <;> cases (cls hi n == 4) <;> simp
  have i1 : isnum lo n = true:=by rw [hval,hq1.1,hq1.2.2.1]; rfl
  have i2 : isnum hi n = true:=by rw [hval,hq1.2.1,hq1.2.2.2]; rfl
  have hv : vsp lo hi n = ((infS n (keyOf lo n) != 1) && (infS n (keyOf hi n) != -1) && decide (cz (keyOf lo n) (keyOf hi n) ≤ 0)):=by
   have hpos:=ifn_p n
   obtain ⟨c1,c2,c3⟩:=cz_cases5 (keyOf lo n) (keyOf hi n)
   have e1 : (infS n (keyOf lo n) != 1) = decide (keyOf lo n ≠ (ifn n : Int)):=by
    unfold infS
    by_cases g1 : keyOf lo n = (ifn n : Int)
    ·simp [g1]
    ·rw [if_neg g1,decide_eq_true g1]
     split <;> rfl
   have e2 : (infS n (keyOf hi n) != -1) = decide (keyOf hi n ≠ -(ifn n : Int)):=by
    unfold infS
    by_cases g2 : keyOf hi n = -(ifn n : Int)
    ·rw [if_neg (by omega),if_pos g2]
     simp [g2]
    ·rw [decide_eq_true g2,if_neg g2]
     split <;> rfl
   have e3 : decide (cz (keyOf lo n) (keyOf hi n) ≤ 0) = decide (keyOf lo n ≤ keyOf hi n):=by
    apply decide_eq_decide.2
    omega
   unfold vsp
   rw [i1,i2,e1,e2,e3,Bool.true_and,Bool.true_and]
   cases decide (keyOf lo n ≤ keyOf hi n) <;> cases decide (keyOf lo n ≠ (ifn n : Int)) <;> cases decide (keyOf hi n ≠ -(ifn n : Int)) <;> rfl
  rw [hv]
  refine rvalid_yes5 lo hi n (infS n (keyOf lo n)) (infS n (keyOf hi n)) _ _ _ _ rfl rfl rfl _ _ _ _ hq1.1 hq1.2.1 hq1.2.2.1 hq1.2.2.2 (PE n) (PE.kept n) w KV KN (fun u b i h k => ?_) (fun u v1 v2 k e1 e2 => rord_keys n lo hi h1 h2 i1 i2 v1 v2 u e1 e2)
  rcases h with ⟨rfl,rfl⟩ | ⟨rfl,rfl⟩
  ·refine (rof6 n _ h1 i1 u).mono ?_
   rintro e w' ⟨v,rfl,hv,kk⟩
   obtain ⟨n1,a1,l1,c1,x1,m1,b1,k1,d1,y1,rfl⟩:=EnAt.shape hv
   exact ⟨n1,a1,l1,c1,x1,m1,b1,k1,d1,y1,rfl,hv,kk⟩
  ·refine (rof6 n _ h2 i2 u).mono ?_
   rintro e w' ⟨v,rfl,hv,kk⟩
   obtain ⟨n1,a1,l1,c1,x1,m1,b1,k1,d1,y1,rfl⟩:=EnAt.shape hv
   exact ⟨n1,a1,l1,c1,x1,m1,b1,k1,d1,y1,rfl,hv,kk⟩
theorem rsingle5 (lo hi n : Int) (h1 : RB lo) (h2 : RB hi) (hv : vsp lo hi n = true) (w : World) : Calls Tryz.prog 45 #[.agg #[.int .i64 lo,.int .i64 hi],.int .i64 n] w fun e w' => e = .returned (.bool (decide (keyOf lo n = keyOf hi n))) ∧ Kept w w':=by
 obtain ⟨i1,i2,-⟩:=vsp_num _ _ _ hv
 have:=rsingle_walk5 lo hi n (cz (keyOf lo n) (keyOf hi n)) (PE n) (PE.kept n) w (fun u b h k => by
  rcases h with rfl | rfl
  ·exact rof6 n _ h1 i1 u
  ·exact rof6 n _ h2 i2 u) (fun u v1 v2 k e1 e2 => rord_keys n lo hi h1 h2 i1 i2 v1 v2 u e1 e2)
 have e : (cz (keyOf lo n) (keyOf hi n) == 0) = decide (keyOf lo n = keyOf hi n):=by
  obtain ⟨c1,c2,c3⟩:=cz_cases5 (keyOf lo n) (keyOf hi n)
  rw [Bool.eq_iff_iff,beq_iff_eq,decide_eq_true_eq]
  omega
 rw [e] at this
 exact this
theorem rpoint5 (b n : Int) (hb : RB b) (hi : isnum b n = true) (w : World) : Calls Tryz.prog 40 #[.int .i64 b,.int .i64 n] w fun e w' => e = .returned (.agg #[.int .i64 (pz n (keyOf b n)),.int .i64 (pz n (keyOf b n))]) ∧ Kept w w':=by
 have hn:=isnum_wid b n hi
 refine rpoint_walk5 b n _ _ (PE n) (PE.kept n) w (fun u k => rof6 n b hb hi u) (fun u v1 v2 k e1 e2 => ?_)
 have:=rmade5 n hn _ _ _ _ (infS_is n _) (infS_is n _) (num_vld n b hb hi).1 (num_vld n b hb hi).1 v1 v2 u e1 e2
 rw [tk_key n 1 b (.inl rfl) hb hi,tk_key n 2 b (.inr rfl) hb hi] at this
 exact this
theorem trn_ngv (x : Nm) (h : vld x = true) : trn x = ngv x:=by
 unfold ngv
 by_cases hm : x.mag = []
 ·rw [if_pos hm,trn_nil x hm]
  obtain ⟨ng,L,e⟩:=x
  simp only at hm
  subst hm
  obtain ⟨rfl,rfl⟩:=vld_nil _ _ h
  rfl
 ·rw [if_neg hm]
  exact trn_ne x hm
theorem rturned5 (i : Int) (x : Nm) (hi : i = -1 ∨ i = 0 ∨ i = 1) (v : Value) (w : World) (h : EnAt Top w v i x oneN5) : Calls Tryz.prog 95 #[v] w fun e w' => (∃ r,e = .returned r ∧ EnAt Top w' r (-i) (trn x) oneN5) ∧ Kept w w':=by
 have hh:=h.here
 obtain ⟨a1,c1,a2,c2,rfl,r1,r2⟩:=h
 obtain ⟨b1,d1,b2,d2,e,q1,q2⟩:=hh
 cases e
 refine (rturned_walk i x.neg a1 x.mag.length c1 x.exp oneN5.neg a2 oneN5.mag.length c2 oneN5.exp (-i) (by rcases hi with rfl | rfl | rfl <;> decide) _ w (fun u => turned_any _ a1 _ c1 _ u)).mono ?_
 rintro e w' ⟨u,C,v0,v1,v2,v3,v4,v5,v6,rfl,k,hC,rfl⟩
 refine ⟨⟨_,rfl,a1,c1,a2,c2,rfl,?_,?_⟩,kept7 k hC _ _ _ _ _ _ _⟩
 ·exact (rlp7 (q1.kept k) C (fun c hc => by have:=hc.2; omega) _ _ _ _ _ _ _).imp (fun _ _ => trivial)
 ·exact (rlp7 (q2.kept k) C (fun c hc => by have:=hc.2; omega) _ _ _ _ _ _ _).imp (fun _ _ => trivial)
theorem rneg5 (lo hi n : Int) (h1 : RB lo) (h2 : RB hi) (i1 : isnum lo n = true) (i2 : isnum hi n = true) (w : World) : Calls Tryz.prog 39 #[.agg #[.int .i64 lo,.int .i64 hi],.int .i64 n] w fun e w' => e = .returned (.agg #[.int .i64 (pz n (-keyOf hi n)),.int .i64 (pz n (-keyOf lo n))]) ∧ Kept w w':=by
 have hn:=isnum_wid lo n i1
 have tk : ∀ (b way way' : Int),(way = 1 ∧ way' = 2 ∨ way = 2 ∧ way' = 1) → RB b → isnum b n = true → Tk n way (-infS n (keyOf b n)) (trn (numOf b n)) = -keyOf b n:=fun b way way' hw hb hi => by
  have ht:=tk_key n way' b (by omega) hb hi
  have hv:=(num_vld n b hb hi).1
  rw [trn_ngv _ hv]
  have T0 : ∀ wy x,Tk n wy 0 x = kyN n wy x:=fun wy x => by unfold Tk; rw [if_neg (by decide),if_neg (by decide)]
  have T1 : ∀ wy x,Tk n wy 1 x = (ifn n : Int):=fun wy x => by unfold Tk; rw [if_pos (by decide)]
  have T2 : ∀ wy x,Tk n wy (-1) x = -(ifn n : Int):=fun wy x => by unfold Tk; rw [if_neg (by decide),if_pos (by decide)]
  rcases infS_is n (keyOf b n) with h | h | h
  ·rw [h] at ht ⊢
   rw [T2] at ht
   rw [show -(-1 : Int) = 1 by decide,T1]
   omega
  ·rw [h] at ht ⊢
   rw [T0] at ht
   rw [show -(0 : Int) = 0 by decide,T0]
   rcases hw with ⟨rfl,rfl⟩ | ⟨rfl,rfl⟩
   ·have:=(kyN_mir n 2 (.inr (.inr rfl)) _ hv).1
    rw [show mir 2 = 1 by decide,ht] at this
    exact this
   ·have:=(kyN_mir n 1 (.inr (.inl rfl)) _ hv).1
    rw [show mir 1 = 2 by decide,ht] at this
    exact this
  ·rw [h] at ht ⊢
   rw [T1] at ht
   rw [T2]
   omega
 refine rneg_walk5 lo hi n _ _ (PE n) (PE.kept n) (fun b u v => EnAt Top u v (-infS n (keyOf b n)) (trn (numOf b n)) oneN5) (fun b u u' v h k => EnAt.kept h k) w (fun u b h k => ?_) (fun u b v h k e => ?_) (fun u v1 v2 k e1 e2 => ?_)
 ·rcases h with rfl | rfl
  ·exact rof6 n _ h1 i1 u
  ·exact rof6 n _ h2 i2 u
 ·refine (rturned5 _ _ (infS_is n _) v u e).mono ?_
  rintro e w' ⟨⟨r,rfl,hr⟩,kk⟩
  exact ⟨r,rfl,hr,kk⟩
 ·have:=rmade5 n hn _ _ _ _ (by rcases infS_is n (keyOf hi n) with h | h | h <;> rw [h] <;> decide) (by rcases infS_is n (keyOf lo n) with h | h | h <;> rw [h] <;> decide) (trn_vld _ (num_vld n hi h2 i2).1) (trn_vld _ (num_vld n lo h1 i1).1) v1 v2 u e1 e2
  rw [tk hi 1 2 (.inl ⟨rfl,rfl⟩) h2 i2,tk lo 2 1 (.inr ⟨rfl,rfl⟩) h1 i1] at this
  exact this
end Go.Proofs.YtdhimkpfnhoagaaGreatDoor
