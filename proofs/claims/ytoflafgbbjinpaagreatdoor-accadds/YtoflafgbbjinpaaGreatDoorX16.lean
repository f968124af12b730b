/- acc's Sum,Dot,Merge,AddProduct,Add,by what they ask. The walks of Neg,Abs,Canon,Next of package bits: what each call gives,width by width. Neg,Abs,Canon,Next,Prev of package bits: one contract each,for every int and every width. -/
import Derived.Test.YtoflafgbbjinpaaGreatDoorX15
import Derived.Test.YtoflafgbbjinpaaGreatDoorX02
namespace Go.Proofs.YtoflafgbbjinpaaGreatDoor
open Go.ChangeShapes Go.WideShapes Go.ChangeAt Go.RowKit
set_option linter.unusedVariables false
set_option linter.unusedSimpArgs false
set_option maxHeartbeats 16000000
set_option maxRecDepth 100000
theorem New.parts {w w' : World} {vn : Bool} {va : Option Addr} {vl vc : Nat} {vx : Int} {r : Nm} (h : New w w' (.agg #[.bool vn,.slice va vl vc,.int .i64 vx]) r) : vn = r.neg ∧ vl = r.mag.length ∧ vx = r.exp ∧ (va = none → vc = 0) ∧ Sl w' (.slice va vl vc) r.mag:=by
 have hs:=h.numAt
 obtain ⟨s,e,hsl⟩:=hs
 simp only [Value.agg.injEq,Array.mk.injEq,List.cons.injEq,Value.bool.injEq,Value.int.injEq,true_and,and_true] at e
 obtain ⟨e1,rfl,e3⟩:=e
 have hl : vl = r.mag.length:=by
  obtain ⟨ao,cap,e,-⟩:=hsl
  injection e
 refine ⟨e1,hl,e3,?_,hsl⟩
 rcases h with ⟨rfl,e⟩ | ⟨g,cap,e,hg,ho,hne⟩
 ·intro _
  simp only [zeroNum,Value.agg.injEq,Array.mk.injEq,List.cons.injEq,Value.slice.injEq] at e
  exact e.2.1.2.2
 ·intro g
  subst g
  simp at e
theorem asum_ok (n : Int) (a1 : Option Addr) (N c1 : Nat) (w : World) (r : Nm) (p m z : Bool) (bv er : Int)
  (KT : Hid (Calls Tryz.prog 87 #[.slice a1 N c1,.int .i64 n] w fun e w' => ∃ vn va vl vc vx,e = .returned (.tuple #[accV vn (.slice va vl vc) vx p m z,.int .i64 0]) ∧ New w w' (.agg #[.bool vn,.slice va vl vc,.int .i64 vx]) r ∧ Kept w w'))
  (KR : Hid (∀ u (vn : Bool) va vl vc vx,Kept w u → vn = r.neg → vl = r.mag.length → vx = r.exp → (va = none → vc = 0) → Sl u (.slice va vl vc) r.mag → Calls Tryz.prog 20 #[accV vn (.slice va vl vc) vx p m z,.int .i64 n] u fun e w' => e = .returned (.tuple #[.int .i64 bv,.int .i64 er]) ∧ Kept u w')) :
  Calls Tryz.prog 35 #[.slice a1 N c1,.int .i64 n] w fun e w' => e = .returned (.tuple #[.int .i64 bv,.int .i64 er]) ∧ Kept w w':=by
 go_enter Tryz.func35,Tryz.ntmps35
 go_wp2_with fail
 refine KT.out.mono ?_
 rintro e w1 ⟨vn,va,vl,vc,vx,rfl,hN,k1⟩
 obtain ⟨e1,e2,e3,e4,hs⟩:=hN.parts
 have KR1 : Hid (∀ u,Kept w1 u → Calls Tryz.prog 20 #[accV vn (.slice va vl vc) vx p m z,.int .i64 n] u fun e w' => e = .returned (.tuple #[.int .i64 bv,.int .i64 er]) ∧ Kept u w'):=fun u k => KR.out u vn va vl vc vx (k1.trans k) e1 e2 e3 e4 (hs.kept k)
 clear KR KT hN e1 e2 e3 e4 hs
 go_wp2_with fail
 refine (KR1.out _ ((Kept.refl w1).alloc _ _)).mono ?_
 rintro e w2 ⟨rfl,k2⟩
 go_wp2_with fail
 exact bodyPost_ret (v:=.tuple #[.int .i64 bv,.int .i64 er]) (by simp [results,Tryz.results35,go_sem]) rfl ⟨rfl,k1.trans (((Kept.refl w1).alloc _ _).trans k2)⟩
theorem adot_ok (n : Int) (a1 a2 : Option Addr) (N c1 M c2 : Nat) (w : World) (r : Nm) (p m z : Bool) (bv er : Int)
  (KT : Hid (Calls Tryz.prog 88 #[.slice a1 N c1,.slice a2 M c2,.int .i64 n] w fun e w' => ∃ vn va vl vc vx,e = .returned (.tuple #[accV vn (.slice va vl vc) vx p m z,.int .i64 0]) ∧ New w w' (.agg #[.bool vn,.slice va vl vc,.int .i64 vx]) r ∧ Kept w w'))
  (KR : Hid (∀ u (vn : Bool) va vl vc vx,Kept w u → vn = r.neg → vl = r.mag.length → vx = r.exp → (va = none → vc = 0) → Sl u (.slice va vl vc) r.mag → Calls Tryz.prog 20 #[accV vn (.slice va vl vc) vx p m z,.int .i64 n] u fun e w' => e = .returned (.tuple #[.int .i64 bv,.int .i64 er]) ∧ Kept u w')) :
  Calls Tryz.prog 36 #[.slice a1 N c1,.slice a2 M c2,.int .i64 n] w fun e w' => e = .returned (.tuple #[.int .i64 bv,.int .i64 er]) ∧ Kept w w':=by
 go_enter Tryz.func36,Tryz.ntmps36
 go_wp2_with fail
 refine KT.out.mono ?_
 rintro e w1 ⟨vn,va,vl,vc,vx,rfl,hN,k1⟩
 obtain ⟨e1,e2,e3,e4,hs⟩:=hN.parts
 have KR1 : Hid (∀ u,Kept w1 u → Calls Tryz.prog 20 #[accV vn (.slice va vl vc) vx p m z,.int .i64 n] u fun e w' => e = .returned (.tuple #[.int .i64 bv,.int .i64 er]) ∧ Kept u w'):=fun u k => KR.out u vn va vl vc vx (k1.trans k) e1 e2 e3 e4 (hs.kept k)
 clear KR KT hN e1 e2 e3 e4 hs
 go_wp2_with fail
 refine (KR1.out _ ((Kept.refl w1).alloc _ _)).mono ?_
 rintro e w2 ⟨rfl,k2⟩
 go_wp2_with fail
 exact bodyPost_ret (v:=.tuple #[.int .i64 bv,.int .i64 er]) (by simp [results,Tryz.results36,go_sem]) rfl ⟨rfl,k1.trans (((Kept.refl w1).alloc _ _).trans k2)⟩
theorem merge_ok (n1 : Bool) (a1 : Option Addr) (l1 c1 : Nat) (x1 : Int) (p1 m1 z1 : Bool) (n2 : Bool) (a2 : Option Addr) (l2 c2 : Nat) (x2 : Int) (p2 m2 z2 : Bool) (w : World) (r : Nm)
  (KA : Hid (∀ u,Kept w u → Calls Tryz.prog 18 #[.agg #[.bool n1,.slice a1 l1 c1,.int .i64 x1],.agg #[.bool n2,.slice a2 l2 c2,.int .i64 x2]] u fun e w' => ∃ v,e = .returned (.tuple #[v,.int .i64 0]) ∧ New u w' v r ∧ Kept u w')) :
  Calls Tryz.prog 29 #[accV n1 (.slice a1 l1 c1) x1 p1 m1 z1,accV n2 (.slice a2 l2 c2) x2 p2 m2 z2] w fun e w' => ∃ vn va vl vc vx,e = .returned (.tuple #[accV vn (.slice va vl vc) vx (p1 || p2) (m1 || m2) (z1 || z2),.int .i64 0]) ∧ New w w' (.agg #[.bool vn,.slice va vl vc,.int .i64 vx]) r ∧ Kept w w':=by
 obtain ⟨X,hX⟩ : ∃ X,X = ((w.alloc (.cells #[.bool n1,.slice a1 l1 c1,.int .i64 x1,.bool p1,.bool m1,.bool z1] 26)).alloc (.cells #[.bool n2,.slice a2 l2 c2,.int .i64 x2,.bool p2,.bool m2,.bool z2] 26)).alloc (.cells #[.bool false,.slice none 0 0,.int .i64 0,.bool false,.bool false,.bool false] 26):=⟨_,rfl⟩
 have k0 : Kept w X:=by rw [hX]; exact (((Kept.refl w).alloc _ _).alloc _ _).alloc _ _
 have hXs : Hid (X.heap.size = w.heap.size + 3):=by rw [hX]; simp [Hid]
 obtain ⟨B1,hB1⟩ : ∃ B,B = w.heap.size + 1:=⟨_,rfl⟩
 obtain ⟨B2,hB2⟩ : ∃ B,B = w.heap.size + 1 + 1:=⟨_,rfl⟩
 have H1 : Hid (∀ u,Kept X u → u.cell? ⟨w.heap.size,3,none⟩ = some (.bool p1) ∧ u.cell? ⟨w.heap.size,4,none⟩ = some (.bool m1) ∧ u.cell? ⟨w.heap.size,5,none⟩ = some (.bool z1) ∧ u.cell? ⟨B1,3,none⟩ = some (.bool p2) ∧ u.cell? ⟨B1,4,none⟩ = some (.bool m2) ∧ u.cell? ⟨B1,5,none⟩ = some (.bool z2)):=fun u k => by
  refine ⟨?_,?_,?_,?_,?_,?_⟩
  all_goals exact (k.below.cell (by rw [hXs.out]; first | (simp; done) | (dsimp only; omega))).trans (by rw [hX]; first | (simp [go_sem]; done) | (rw [hB1]; simp [go_sem]))
 have HR : Hid (∀ u,Kept X u → u.cell? ⟨B2,0,none⟩ = some (.bool false) ∧ u.cell? ⟨B2,1,none⟩ = some (.slice none 0 0) ∧ u.cell? ⟨B2,2,none⟩ = some (.int .i64 0) ∧ u.cell? ⟨B2,3,none⟩ = some (.bool false) ∧ u.cell? ⟨B2,4,none⟩ = some (.bool false) ∧ u.cell? ⟨B2,5,none⟩ = some (.bool false) ∧ ∀ o,u.frozen? ⟨B2,o,none⟩ = false):=fun u k => by
  refine ⟨?_,?_,?_,?_,?_,?_,fun o => ?_⟩
  iterate 6 (exact (k.below.cell (by rw [hXs.out]; dsimp only; omega)).trans (by rw [hX,hB2]; simp [go_sem]))
  exact (k.frozen _).trans (by rw [hX,hB2]; simp [go_sem])
 have HA : Hid (X.cell? ⟨w.heap.size,0,none⟩ = some (.bool n1) ∧ X.cell? ⟨w.heap.size,1,none⟩ = some (.slice a1 l1 c1) ∧ X.cell? ⟨w.heap.size,2,none⟩ = some (.int .i64 x1) ∧ X.cell? ⟨B1,0,none⟩ = some (.bool n2) ∧ X.cell? ⟨B1,1,none⟩ = some (.slice a2 l2 c2) ∧ X.cell? ⟨B1,2,none⟩ = some (.int .i64 x2)):=by
  rw [hX,hB1]
  refine ⟨?_,?_,?_,?_,?_,?_⟩ <;> simp [go_sem]
 have HW : Hid (∀ (w1 u : World) (va : Option Addr) (vl vc : Nat) (vn : Bool) (vx : Int) (t : TypeId) (q : Array Value) (v0 v1 v2 v3 v4 v5 : Value),Kept X u → New X u (.agg #[.bool vn,.slice va vl vc,.int .i64 vx]) r → w1 = (((((((u.alloc (.cells q t)).setCell ⟨B2,0,none⟩ v0).setCell ⟨B2,1,none⟩ v1).setCell ⟨B2,2,none⟩ v2).setCell ⟨B2,3,none⟩ v3).setCell ⟨B2,4,none⟩ v4).setCell ⟨B2,5,none⟩ v5) → New w w1 (.agg #[.bool vn,.slice va vl vc,.int .i64 vx]) r ∧ Kept w w1):=fun w1 u va vl vc vn vx t q v0 v1 v2 v3 v4 v5 k hN e => by
  subst e
  have h2 : w.heap.size ≤ B2:=by omega
  refine ⟨?_,((((((((k0.trans k).alloc q t)).setCell (p:=⟨B2,0,none⟩) h2 v0).setCell (p:=⟨B2,1,none⟩) h2 v1).setCell (p:=⟨B2,2,none⟩) h2 v2).setCell (p:=⟨B2,3,none⟩) h2 v3).setCell (p:=⟨B2,4,none⟩) h2 v4).setCell (p:=⟨B2,5,none⟩) h2 v5⟩
  rcases hN with h | ⟨g,cap,e,hg,ho,hne⟩
  ·exact .inl h
  ·have hgw : g ≠ B2:=by have h9 : X.heap.size = w.heap.size + 3:=hXs.out; omega
   have ho:=ho.kept ((Kept.refl u).alloc q t)
   exact .inr ⟨g,cap,e,Nat.le_trans (by have h9 : X.heap.size = w.heap.size + 3:=hXs.out; omega) hg,(((((ho.setOther (by simpa using hgw) _).setOther (by simpa using hgw) _).setOther (by simpa using hgw) _).setOther (by simpa using hgw) _).setOther (by simpa using hgw) _).setOther (by simpa using hgw) _,hne⟩
 obtain ⟨P,hP⟩ : ∃ P,P = (p1 || p2):=⟨_,rfl⟩
 obtain ⟨M,hM⟩ : ∃ P,P = (m1 || m2):=⟨_,rfl⟩
 obtain ⟨Z,hZ⟩ : ∃ P,P = (z1 || z2):=⟨_,rfl⟩
 have HP : Hid (P = (p1 || p2) ∧ M = (m1 || m2) ∧ Z = (z1 || z2)):=⟨hP,hM,hZ⟩
 rw [← hP,← hM,← hZ]
 clear hP hM hZ
 have KA1:=KA.out X k0
 have KA2 : Hid (Calls Tryz.prog 18 #[.agg #[.bool n1,.slice a1 l1 c1,.int .i64 x1],.agg #[.bool n2,.slice a2 l2 c2,.int .i64 x2]] X fun e w' => ∃ v,e = .returned (.tuple #[v,.int .i64 0]) ∧ New X w' v r ∧ Kept X w'):=KA1
 clear KA KA1
 go_enter Tryz.func29,Tryz.ntmps29
 go_upto_region 1 with fail
 rw [← hX,← hB2,← hB1]
 have hb2 : Hid (B2 < X.heap.size ∧ B1 < X.heap.size ∧ w.heap.size < X.heap.size):=(show _ ∧ _ ∧ _ from by rw [hXs.out]; omega)
 clear hX hB1 hB2
 obtain ⟨c0,c1',c2',d0,d1,d2⟩:=HA.out
 go_wp2_with fail
 refine KA2.out.mono ?_
 rintro e w1 ⟨v,rfl,hN,k1⟩
 obtain ⟨vn,va,vl,vc,vx,rfl⟩:=hN.shape
 clear c0 c1' c2' d0 d1 d2 HA KA2
 have HN : Hid (New X w1 (.agg #[.bool vn,.slice va vl vc,.int .i64 vx]) r):=hN
 clear hN
 obtain ⟨f1,f2,f3,f4,f5,f6⟩:=H1.out _ k1
 obtain ⟨r0,r1,r2,r3,r4,r5,r6⟩:=HR.out _ k1
 obtain ⟨g1,g2,g3,g4,g5,g6⟩:=H1.out _ (k1.alloc #[.bool vn,.slice va vl vc,.int .i64 vx] 24)
 obtain ⟨s0,s1,s2,s3,s4,s5,s6⟩:=HR.out _ (k1.alloc #[.bool vn,.slice va vl vc,.int .i64 vx] 24)
 obtain ⟨hb2,hb1,hb0⟩:=hb2.out
 have nn2 : B2 ≠ w1.heap.size:=Nat.ne_of_lt (Nat.lt_of_lt_of_le hb2 k1.below.size)
 have n1' : B1 ≠ w1.heap.size:=Nat.ne_of_lt (Nat.lt_of_lt_of_le hb1 k1.below.size)
 have nn0 : w.heap.size ≠ w1.heap.size:=Nat.ne_of_lt (Nat.lt_of_lt_of_le hb0 k1.below.size)
 clear H1 HR
 cases p1 <;> cases m1 <;> cases z1
 all_goals
  go_wp2_with fail
  obtain ⟨e1,e2,e3⟩:=HP.out
  simp only [Bool.false_or,Bool.true_or] at e1 e2 e3
  refine bodyPost_ret (v:=.tuple #[accV vn (.slice va vl vc) vx P M Z,.int .i64 0]) (by rw [e1,e2,e3]; simp [results,Tryz.results29,go_sem,r0,r1,r2,r3,r4,r5,s0,s1,s2,s3,s4,s5,nn2]) rfl ⟨vn,va,vl,vc,vx,rfl,?_⟩
  exact HW.out _ w1 va vl vc vn vx _ _ _ _ _ _ _ _ k1 HN.out rfl
theorem neg_64 (b : Int) (s : Int) (hs : bits .xor .i64 b (-9223372036854775808) = s) (w : World) : Calls Tryz.prog 25 #[.int .i64 b,.int .i64 64] w fun e w' => e = .returned (.int .i64 (if cls b 64 = 4 then 9221120237041090561 else s)) ∧ Kept w w':=by
 go_enter Tryz.func25,Tryz.ntmps25
 go_wp2_with (first | (go_at_call 77; refine (numbers_64 b _).mono ?_; rintro e w1 ⟨rfl,hk1⟩))
 all_goals
  go_ret
  refine ⟨ret_int ?_,hk1.alloc _ _⟩
  try unfold wrap64
  (try simp only [Bool.not_eq_true',Bool.not_eq_false',bne_iff_ne,bne_eq_false_iff_eq,beq_iff_eq,beq_eq_false_iff_ne,ne_eq] at *) <;> ((repeat' split) <;> omega)
theorem next_64 (b : Int) (hb1 : -9223372036854775808 ≤ b) (hb2 : b ≤ 9223372036854775807) (g : Int) (hg : bits .and .i64 b (-9223372036854775808) = g) (hx : cls b 64 = 4 ∨ b ≤ 9218868437227405312) (hq : g = 0 ↔ 0 ≤ b) (w : World) : Calls Tryz.prog 173 #[.int .i64 b,.int .i64 64] w fun e w' => e = .returned (.int .i64 (if cls b 64 = 4 then 9221120237041090561 else if b = 9218868437227405312 then b else if b = -9223372036854775808 then 1 else if g = 0 then b + 1 else b - 1)) ∧ Kept w w':=by
 go_enter Tryz.func173,Tryz.ntmps173
 go_wp2_with (first | (go_at_call 77; refine (numbers_64 b _).mono ?_; rintro e w1 ⟨rfl,hk1⟩))
 all_goals
  go_ret
  refine ⟨ret_int ?_,hk1.alloc _ _⟩
  try unfold wrap64
  (try simp only [Bool.not_eq_true',Bool.not_eq_false',bne_iff_ne,bne_eq_false_iff_eq,beq_iff_eq,beq_eq_false_iff_ne,ne_eq] at *) <;> ((repeat' split) <;> omega)
theorem neg_32 (b : Int) (s : Int) (hs : bits .xor .i64 b 2147483648 = s) (w : World) : Calls Tryz.prog 25 #[.int .i64 b,.int .i64 32] w fun e w' => e = .returned (.int .i64 (if cls b 32 = 4 then 2143289345 else s)) ∧ Kept w w':=by
 go_enter Tryz.func25,Tryz.ntmps25
 go_wp2_with (first | (go_at_call 77; refine (numbers_32 b _).mono ?_; rintro e w1 ⟨rfl,hk1⟩))
 all_goals
  go_ret
  refine ⟨ret_int ?_,hk1.alloc _ _⟩
  try unfold wrap64
  (try simp only [Bool.not_eq_true',Bool.not_eq_false',bne_iff_ne,bne_eq_false_iff_eq,beq_iff_eq,beq_eq_false_iff_ne,ne_eq] at *) <;> ((repeat' split) <;> omega)
theorem next_32 (b : Int) (hb1 : -9223372036854775808 ≤ b) (hb2 : b ≤ 9223372036854775807) (g : Int) (hg : bits .and .i64 b 2147483648 = g) (hx : cls b 32 = 4 ∨ 0 ≤ b ∧ b < 4294967296) (w : World) : Calls Tryz.prog 173 #[.int .i64 b,.int .i64 32] w fun e w' => e = .returned (.int .i64 (if cls b 32 = 4 then 2143289345 else if b = 2139095040 then b else if b = 2147483648 then 1 else if g = 0 then b + 1 else b - 1)) ∧ Kept w w':=by
 go_enter Tryz.func173,Tryz.ntmps173
 go_wp2_with (first | (go_at_call 77; refine (numbers_32 b _).mono ?_; rintro e w1 ⟨rfl,hk1⟩))
 all_goals
  go_ret
  refine ⟨ret_int ?_,hk1.alloc _ _⟩
  try unfold wrap64
  (try simp only [Bool.not_eq_true',Bool.not_eq_false',bne_iff_ne,bne_eq_false_iff_eq,beq_iff_eq,beq_eq_false_iff_ne,ne_eq] at *) <;> ((repeat' split) <;> omega)
theorem neg_0 (b n : Int) (h1 : (n == 32) = false) (h2 : (n == 64) = false)  (w : World) : Calls Tryz.prog 25 #[.int .i64 b,.int .i64 n] w fun e w' => e = .returned (.int .i64 (0)) ∧ Kept w w':=by
 go_enter Tryz.func25,Tryz.ntmps25
 go_wp2_with (first | (go_at_call 77; refine (numbers_0 b _ h1 h2 _).mono ?_; rintro e w1 ⟨rfl,hk1⟩))
 go_ret
 exact ⟨rfl,hk1.alloc _ _⟩
theorem next_0 (b n : Int) (h1 : (n == 32) = false) (h2 : (n == 64) = false)  (w : World) : Calls Tryz.prog 173 #[.int .i64 b,.int .i64 n] w fun e w' => e = .returned (.int .i64 (0)) ∧ Kept w w':=by
 go_enter Tryz.func173,Tryz.ntmps173
 go_wp2_with (first | (go_at_call 77; refine (numbers_0 b _ h1 h2 _).mono ?_; rintro e w1 ⟨rfl,hk1⟩))
 go_ret
 exact ⟨rfl,hk1.alloc _ _⟩
theorem cls_num_64 (b : Int) (h : cls b 64 ≠ 4) : b % 9223372036854775808 ≤ 9218868437227405312:=by
 unfold cls clsOf at h
 rw [if_pos rfl] at h
 split at h <;> omega
theorem neg_any (b n : Int) (hb1 : -9223372036854775808 ≤ b) (hb2 : b ≤ 9223372036854775807) (w : World) : Calls Tryz.prog 25 #[.int .i64 b,.int .i64 n] w fun e w' => e = .returned (.int .i64 (ngt b n)) ∧ Kept w w':=by
 by_cases h64 : n = 64
 ·subst h64
  refine (neg_64 b _ (xor_min b hb1 hb2) w).mono ?_
  rintro e w' ⟨rfl,hk⟩
  refine ⟨ret_int ?_,hk⟩
  by_cases hc : cls b 64 = 4 <;> simp [ngt,isnum,nanOf,hc]
 ·by_cases h32 : n = 32
  ·subst h32
   refine (neg_32 b _ rfl w).mono ?_
   rintro e w' ⟨rfl,hk⟩
   refine ⟨ret_int ?_,hk⟩
   by_cases hc : cls b 32 = 4
   ·simp [ngt,isnum,nanOf,hc]
   ·have hv:=cls_valid b hc
    rw [xor_31 b hv.1 hv.2]
    simp [ngt,isnum,hc]
  ·refine (neg_0 b n (by simpa using h32) (by simpa using h64) w).mono ?_
   rintro e w' ⟨rfl,hk⟩
   exact ⟨ret_int (by simp [ngt,isnum_0 b n h64 h32,nanOf_0 n h64 h32]),hk⟩
theorem next_any (b n : Int) (hb1 : -9223372036854775808 ≤ b) (hb2 : b ≤ 9223372036854775807) (w : World) : Calls Tryz.prog 173 #[.int .i64 b,.int .i64 n] w fun e w' => e = .returned (.int .i64 (nxt b n)) ∧ Kept w w':=by
 by_cases h64 : n = 64
 ·subst h64
  refine (next_64 b hb1 hb2 _ (and_min b hb1 hb2) ?_ (by split <;> omega) w).mono ?_
  ·by_cases hc : cls b 64 = 4
   ·exact Or.inl hc
   ·have:=cls_num_64 b hc
    exact Or.inr (by omega)
  rintro e w' ⟨rfl,hk⟩
  refine ⟨ret_int ?_,hk⟩
  by_cases hc : cls b 64 = 4
  ·simp [nxt,isnum,nanOf,hc]
  ·have hi : isnum b 64 = true:=by simp [isnum,hc]
   unfold nxt
   rw [if_neg hc,if_pos hi,if_pos rfl]
   (repeat' split) <;> omega
 ·by_cases h32 : n = 32
  ·subst h32
   refine (next_32 b hb1 hb2 _ rfl ?_ w).mono ?_
   ·by_cases hc : cls b 32 = 4
    ·exact Or.inl hc
    ·exact Or.inr (cls_valid b hc)
   rintro e w' ⟨rfl,hk⟩
   refine ⟨ret_int ?_,hk⟩
   by_cases hc : cls b 32 = 4
   ·simp [nxt,isnum,nanOf,hc]
   ·have hv:=cls_valid b hc
    have hi : isnum b 32 = true:=by simp [isnum,hc]
    rw [and_31 b hv.1 hv.2]
    unfold nxt
    rw [if_neg hc,if_pos hi,if_neg (by decide : ¬ (32 : Int) = 64)]
    (repeat' split) <;> omega
  ·refine (next_0 b n (by simpa using h32) (by simpa using h64) w).mono ?_
   rintro e w' ⟨rfl,hk⟩
   exact ⟨ret_int (by simp [nxt,isnum_0 b n h64 h32,nanOf_0 n h64 h32]),hk⟩
theorem nanOf_bd (n : Int) : -9223372036854775808 ≤ nanOf n ∧ nanOf n ≤ 9223372036854775807:=by
 unfold nanOf
 (repeat' split) <;> omega
theorem isnum_inv (b n : Int) (h : isnum b n = true) : (n = 64 ∧ cls b 64 ≠ 4) ∨ (n = 32 ∧ cls b 32 ≠ 4):=by
 simp only [isnum,decide_eq_true_eq] at h
 rcases h with ⟨rfl | rfl,h⟩
 ·exact Or.inl ⟨rfl,h⟩
 ·exact Or.inr ⟨rfl,h⟩
theorem ngt_bd (b n : Int) (hb1 : -9223372036854775808 ≤ b) (hb2 : b ≤ 9223372036854775807) : -9223372036854775808 ≤ ngt b n ∧ ngt b n ≤ 9223372036854775807:=by
 have:=nanOf_bd n
 by_cases hi : isnum b n = true
 ·rcases isnum_inv b n hi with ⟨rfl,hc⟩ | ⟨rfl,hc⟩
  ·unfold ngt; rw [if_pos hi,if_pos rfl]; split <;> omega
  ·have hv:=cls_valid b hc
   unfold ngt; rw [if_pos hi,if_neg (by decide : ¬ (32 : Int) = 64)]; split <;> omega
 ·unfold ngt; rw [if_neg hi]; exact this
theorem nxt_bd (b n : Int) (hb1 : -9223372036854775808 ≤ b) (hb2 : b ≤ 9223372036854775807) : -9223372036854775808 ≤ nxt b n ∧ nxt b n ≤ 9223372036854775807:=by
 have:=nanOf_bd n
 by_cases hi : isnum b n = true
 ·rcases isnum_inv b n hi with ⟨rfl,hc⟩ | ⟨rfl,hc⟩
  ·have:=cls_num_64 b hc
   unfold nxt; rw [if_pos hi,if_pos rfl]; (repeat' split) <;> omega
  ·have hv:=cls_valid b hc
   unfold nxt; rw [if_pos hi,if_neg (by decide : ¬ (32 : Int) = 64)]; (repeat' split) <;> omega
 ·unfold nxt; rw [if_neg hi]; exact this
def prv (b n : Int) : Int:=ngt (nxt (ngt b n) n) n
theorem prev_any (b n : Int) (hb1 : -9223372036854775808 ≤ b) (hb2 : b ≤ 9223372036854775807) (w : World) : Calls Tryz.prog 159 #[.int .i64 b,.int .i64 n] w fun e w' => e = .returned (.int .i64 (prv b n)) ∧ Kept w w':=by
 have q1:=ngt_bd b n hb1 hb2
 have q2:=nxt_bd (ngt b n) n q1.1 q1.2
 go_enter Tryz.func159,Tryz.ntmps159
 go_wp2_with fail
 refine (neg_any b n hb1 hb2 _).mono ?_
 rintro e w1 ⟨rfl,hk1⟩
 go_wp2_with fail
 refine (next_any (ngt b n) n q1.1 q1.2 _).mono ?_
 rintro e w2 ⟨rfl,hk2⟩
 go_wp2_with fail
 refine (neg_any (nxt (ngt b n) n) n q2.1 q2.2 _).mono ?_
 rintro e w3 ⟨rfl,hk3⟩
 go_wp2
 go_ret
 exact ⟨rfl,(hk1.trans hk2).trans hk3⟩
end Go.Proofs.YtoflafgbbjinpaaGreatDoor
