/- The walk of the laws' own ones. -/
import Derived.Test.YtdhimkpfnhoagaaGreatDoorWo38
import Derived.Test.YtdhimkpfnhoagaaGreatDoorWo14
namespace Go.Proofs.YtdhimkpfnhoagaaGreatDoor
open Go.ChangeShapes Go.WideShapes Go.ChangeAt Go.RowKit Ieee
set_option linter.unusedVariables false
set_option linter.unusedSimpArgs false
set_option maxHeartbeats 16000000
set_option maxRecDepth 100000
theorem hid {p : Prop} (h : p) : Hid p:=h
theorem Kept.grw5 {w a b : World} {g : Nat} (h : Kept w a) (hg : w.heap.size ≤ g) (k : Grw g a b) : Kept w b:=h.grw hg k
theorem P2.grw5 {w w' : World} {b c : Nat} {u v : Value} (h : P2 w b u v) (g : Grw c w w') (hne : b ≠ c) : P2 w' b u v:=h.grw g hne
theorem P3.grw5 {w w' : World} {b c : Nat} {u v x : Value} (h : P3 w b u v x) (g : Grw c w w') (hne : b ≠ c) : P3 w' b u v x:=by
 have hb:=g.grown.block b h.lt (by simpa using hne)
 refine ⟨?_,?_,?_⟩
 ·have:=h.c0
  simpa [World.cell?,hb] using this
 ·have:=h.c1
  simpa [World.cell?,hb] using this
 ·have:=h.c2
  simpa [World.cell?,hb] using this
theorem P2.set5 {w : World} {b : Nat} {u v : Value} (h : P2 w b u v) (c o : Nat) (hne : c ≠ b) (x : Value) : P2 (w.setCell ⟨c,o,none⟩ x) b u v:=by
 obtain ⟨c0,c1,fz⟩:=h
 have hb : ¬ b = c:=fun e => hne e.symm
 exact ⟨by simp [go_sem,hne,hb,c0],by simp [go_sem,hne,hb,c1],fun o => by simp [World.frozen?_setCell,fz]⟩
theorem P3.set5 {w : World} {b : Nat} {u v y : Value} (h : P3 w b u v y) (c o : Nat) (hne : c ≠ b) (x : Value) : P3 (w.setCell ⟨c,o,none⟩ x) b u v y:=by
 obtain ⟨c0,c1,c2⟩:=h
 have hb : ¬ b = c:=fun e => hne e.symm
 exact ⟨by simp [go_sem,hne,hb,c0],by simp [go_sem,hne,hb,c1],by simp [go_sem,hne,hb,c2]⟩
theorem ones_walk (lo hi b n : Int) (xn : Bool) (ao : Option Addr) (xl xc : Nat) (xx : Int) (ov : Bool) (e og0 og ah ij jj : Int) (tF tV : Bool) (n1 n2 ef o1 o2 eg a1 a2 eh ei ej ek : Int) (inn onn pp : Bool) (u1 u2 v1 v2 z1 z2 : Int) (hsx hsb sg : Bool) (Lent : Nat → Nat → World → Prop) (sL : Hid (∀ G yc u u',Lent G yc u → Kept u u' → Lent G yc u')) (w : World)
  (own_lt : ∀ G yc u,Lent G yc u → G < u.heap.size) (EX : World → Value → Prop)
  (hei : ei = ij) (hej : ej = jj) (hek : ek = e) (hin : inn = (decide (ij = 0) && hsx)) (hon : onn = (decide (jj = 0) && hsb)) (hpp : pp = (decide (e = 0) && sg))
  (hc : e = 3 ∧ og0 = 3 ∧ og = 3 ∧ ah = 3 ∧ ij = 3 ∧ jj = 3 ∨ e = 1 ∧ og0 = 0 ∧ og = 0 ∧ ah = 0 ∧ ij = 1 ∧ jj = 1 ∧ tF = true ∧ tV = true ∨ e = 1 ∧ og0 = 0 ∧ og = 0 ∧ ah = 7 ∧ ij = 1 ∧ jj = 1 ∧ tF = true ∧ tV = false ∨ e = 1 ∧ og0 = 0 ∧ og = 6 ∧ ah = 0 ∧ ij = 1 ∧ jj = 1 ∧ tF = false ∧ tV = true ∨ e = 1 ∧ og0 = 0 ∧ og = 6 ∧ ah = 7 ∧ ij = 1 ∧ jj = 1 ∧ tF = false ∧ tV = false ∨ e = 0 ∧ og0 = 0 ∧ og = 0 ∧ ah = 0 ∧ ij = 0 ∧ jj = 0 ∧ tF = true ∧ tV = true ∨ e = 0 ∧ og0 = 0 ∧ og = 0 ∧ ah = 7 ∧ ij = 7 ∧ jj = 0 ∧ tF = true ∧ tV = false ∨ e = 0 ∧ og0 = 0 ∧ og = 6 ∧ ah = 0 ∧ ij = 0 ∧ jj = 6 ∧ tF = false ∧ tV = true ∨ e = 0 ∧ og0 = 0 ∧ og = 6 ∧ ah = 7 ∧ ij = 7 ∧ jj = 6 ∧ tF = false ∧ tV = false)
  (KL : Hid (∀ u,Kept w u → Calls Tryz.prog 29 #[.agg #[.bool xn,.slice ao xl xc,.int .i64 xx]] u fun e w' => ∃ G yc,e = .returned (.tuple #[.slice (some ⟨G,0,none⟩) (xl + 3) yc,.agg #[.bool xn,.slice (some ⟨G,0,none⟩) xl yc,.int .i64 xx]]) ∧ u.heap.size ≤ G ∧ Lent G yc w' ∧ Kept u w'))
  (KV : Hid (∀ u,Kept w u → Calls Tryz.prog 30 #[.agg #[.int .i64 lo,.int .i64 hi],.int .i64 n] u fun e w' => e = .returned (.bool ov) ∧ Kept u w'))
  (KF : Hid (∀ u q r,(q = ov ∧ r = e ∨ q = true ∧ r = og0) → Calls Tryz.prog 31 #[.int .i64 n,.bool q] u fun e w' => e = .returned (.int .i64 r) ∧ Kept u w'))
  (KN : Hid (∀ u,Kept w u → Calls Tryz.prog 20 #[.agg #[.int .i64 lo,.int .i64 hi],.int .i64 n] u fun e w' => e = .returned (.tuple #[.agg #[.int .i64 n1,.int .i64 n2],.int .i64 ef]) ∧ Kept u w'))
  (KO : Hid (∀ u,Kept w u → Calls Tryz.prog 32 #[.int .i64 b,.int .i64 n] u fun e w' => e = .returned (.tuple #[.agg #[.int .i64 o1,.int .i64 o2],.int .i64 eg]) ∧ Kept u w'))
  (KA : Hid (∀ u G yc,Kept w u → Lent G yc u → Calls Tryz.prog 33 #[.agg #[.bool xn,.slice (some ⟨G,0,none⟩) xl yc,.int .i64 xx],.int .i64 n] u fun e w' => e = .returned (.tuple #[.agg #[.int .i64 a1,.int .i64 a2],.int .i64 eh]) ∧ Kept u w'))
  (KH : Hid (∀ u G yc,Kept w u → Lent G yc u → Calls Tryz.prog 25 #[.agg #[.int .i64 lo,.int .i64 hi],.agg #[.bool xn,.slice (some ⟨G,0,none⟩) xl yc,.int .i64 xx],.int .i64 n] u fun e w' => e = .returned (.tuple #[.bool inn,.int .i64 ei]) ∧ Kept u w'))
  (KG : Hid (∀ u,Kept w u → Calls Tryz.prog 34 #[.agg #[.int .i64 lo,.int .i64 hi],.int .i64 b,.int .i64 n] u fun e w' => e = .returned (.tuple #[.bool onn,.int .i64 ej]) ∧ Kept u w'))
  (KP : Hid (∀ u,Kept w u → Calls Tryz.prog 35 #[.agg #[.int .i64 lo,.int .i64 hi],.int .i64 n] u fun e w' => e = .returned (.tuple #[.bool pp,.int .i64 ek]) ∧ Kept u w'))
  (KW : Hid (∀ u,Kept w u → Calls Tryz.prog 26 #[.agg #[.int .i64 lo,.int .i64 hi],.int .i64 n] u fun e w' => e = .returned (.bool ov) ∧ Kept u w'))
  (KB : Hid (∀ u G yc,Kept w u → Lent G yc u → Calls Tryz.prog 36 #[.slice (some ⟨G,0,none⟩) (xl + 3) yc,.slice ao xl xc] u fun e w' => e = .returned (.bool true) ∧ Grw G u w'))
  (KFi : Hid (∀ u,Calls Tryz.prog 37 #[.int .i64 b,.int .i64 n] u fun e w' => e = .returned (.bool tF) ∧ Kept u w'))
  (KVx : Hid (∀ u,Kept w u → Calls Tryz.prog 38 #[.agg #[.bool xn,.slice ao xl xc,.int .i64 xx]] u fun e w' => e = .returned (.bool tV) ∧ Kept u w'))
  (KRN : Hid (e = 0 → ∀ u,Kept w u → Calls Tryz.prog 39 #[.agg #[.int .i64 lo,.int .i64 hi],.int .i64 n] u fun e w' => e = .returned (.agg #[.int .i64 u1,.int .i64 u2]) ∧ Kept u w'))
  (KRP : Hid (og = 0 → ∀ u,Kept w u → Calls Tryz.prog 40 #[.int .i64 b,.int .i64 n] u fun e w' => e = .returned (.agg #[.int .i64 v1,.int .i64 v2]) ∧ Kept u w'))
  (KRA : Hid (ah = 0 → ∀ u,Kept w u → Calls Tryz.prog 41 #[.agg #[.bool xn,.slice ao xl xc,.int .i64 xx],.int .i64 n] u fun e w' => e = .returned (.agg #[.int .i64 z1,.int .i64 z2]) ∧ Kept u w'))
  (KI : Hid (∀ u p1 p2 pe q r1 r2,(p1 = n1 ∧ p2 = n2 ∧ pe = ef ∧ q = e ∧ r1 = (if e = 0 then u1 else 0) ∧ r2 = (if e = 0 then u2 else 0) ∨ p1 = o1 ∧ p2 = o2 ∧ pe = eg ∧ q = og ∧ r1 = (if og = 0 then v1 else 0) ∧ r2 = (if og = 0 then v2 else 0) ∨ p1 = a1 ∧ p2 = a2 ∧ pe = eh ∧ q = ah ∧ r1 = (if ah = 0 then z1 else 0) ∧ r2 = (if ah = 0 then z2 else 0)) → Calls Tryz.prog 42 #[.agg #[.int .i64 p1,.int .i64 p2],.int .i64 pe,.int .i64 q,.agg #[.int .i64 r1,.int .i64 r2]] u fun e w' => e = .returned (.bool true) ∧ Kept u w'))
  (KX : Hid (jj = 0 → ∀ u,Kept w u → Calls Tryz.prog 44 #[.int .i64 b,.int .i64 n] u fun e w' => ∃ v,e = .returned v ∧ EX w' v ∧ Kept u w'))
  (KHx : Hid (ij = 0 → ∀ u,Kept w u → Calls Tryz.prog 43 #[.agg #[.int .i64 lo,.int .i64 hi],.agg #[.bool xn,.slice ao xl xc,.int .i64 xx],.int .i64 n] u fun e w' => e = .returned (.bool hsx) ∧ Kept u w'))
  (KHb : Hid (jj = 0 → ∀ u v,Kept w u → EX u v → Calls Tryz.prog 43 #[.agg #[.int .i64 lo,.int .i64 hi],v,.int .i64 n] u fun e w' => e = .returned (.bool hsb) ∧ Kept u w'))
  (KSg : Hid (e = 0 → ∀ u,Kept w u → Calls Tryz.prog 45 #[.agg #[.int .i64 lo,.int .i64 hi],.int .i64 n] u fun e w' => e = .returned (.bool sg) ∧ Kept u w')) :
  Calls Tryz.prog 9 #[.agg #[.int .i64 lo,.int .i64 hi],.int .i64 b,.agg #[.bool xn,.slice ao xl xc,.int .i64 xx],.int .i64 n] w fun e w' => e = .returned (.bool true) ∧ Kept w w':=by
 obtain ⟨X,hX⟩ : ∃ X,X = (w.alloc (.cells #[.int .i64 lo,.int .i64 hi] 23)).alloc (.cells #[.bool xn,.slice ao xl xc,.int .i64 xx] 26):=⟨_,rfl⟩
 have hK : Kept w X:=by rw [hX]; exact ((Kept.refl w).alloc _ _).alloc _ _
 have hXs : X.heap.size = w.heap.size + 2:=by rw [hX]; simp
 have hP0 : P2 X (w.heap.size) (.int .i64 lo) (.int .i64 hi):=by
  rw [hX]
  have:=((P2.new (w) (.int .i64 lo) (.int .i64 hi) 23).alloc #[.bool xn,.slice ao xl xc,.int .i64 xx] 26)
  simpa using this
 have hP1 : P3 X (w.heap.size + 1) (.bool xn) (.slice ao xl xc) (.int .i64 xx):=by
  rw [hX]
  have:=(P3.new (w.alloc (.cells #[.int .i64 lo,.int .i64 hi] 23)) (.bool xn) (.slice ao xl xc) (.int .i64 xx) 26)
  simpa using this
 obtain ⟨B0,hB0⟩ : ∃ B,B = w.heap.size:=⟨_,rfl⟩
 obtain ⟨B1,hB1⟩ : ∃ B,B = B0 + 1:=⟨_,rfl⟩
 rw [← hB0] at hP0
 rw [← hB0,← hB1] at hP1
 have oB : Hid (w.heap.size ≤ B0 ∧ B0 < X.heap.size ∧ w.heap.size ≤ B1 ∧ B1 < X.heap.size):=(show _ ∧ _ ∧ _ ∧ _ from by omega)
 have oX : Hid (w.heap.size ≤ X.heap.size):=hK.below.size
 go_enter Tryz.func9,Tryz.ntmps9
 go_upto_region 1 with fail
 rw [← hX,← hB0,← hB1]
 clear hX hXs hB0 hB1
 have hS:=hP0
 have hX3:=hP1
 clear hP0 hP1
 have kw:=hK
 obtain ⟨b0,b1,b2⟩:=hX3
 have hX3:=P3.mk b0 b1 b2
 go_upto_region 2 with (first | (go_at_call 29; refine (KL.out _ kw).mono ?_; rintro e w1 ⟨G,yc,rfl,hG,hL,k1⟩))
 clear b0 b1 b2 KL
 have HG : Hid (w.heap.size ≤ G ∧ B0 < G ∧ B1 < G ∧ G < w1.heap.size):=(show _ ∧ _ ∧ _ ∧ _ from by have:=oB.out; have:=oX.out; have:=own_lt G yc w1 hL; omega)
 have HL:=hid hL
 clear hL hG
 have hY3:=P3.new w1 (.bool xn) (.slice (some ⟨G,0,none⟩) xl yc) (.int .i64 xx) 26
 have k1':=k1.alloc #[.bool xn,.slice (some ⟨G,0,none⟩) xl yc,.int .i64 xx] 26
 have k11:=(Kept.refl w1).alloc #[.bool xn,.slice (some ⟨G,0,none⟩) xl yc,.int .i64 xx] 26
 obtain ⟨Y1,hY1⟩ : ∃ Y,Y = w1.alloc (.cells #[.bool xn,.slice (some ⟨G,0,none⟩) xl yc,.int .i64 xx] 26):=⟨_,rfl⟩
 obtain ⟨B2,hB2⟩ : ∃ B,B = w1.heap.size:=⟨_,rfl⟩
 rw [← hY1] at hY3 k1' k11
 rw [← hB2] at hY3
 rw [← hY1,← hB2]
 have HG2 : Hid (G ≠ B2):=(show _ ≠ _ from by have:=HG.out; omega)
 have hS:=hS.kept k1'
 have hX3:=hX3.kept k1'
 have HL:=hid (sL.out _ _ _ _ HL.out k11)
 have kw:=kw.trans k1'
 clear hY1 hB2 k1 k1' k11
 have hgt : Hid (G < Y1.heap.size):=own_lt G yc Y1 HL.out
 obtain ⟨a0,a1,af⟩:=hS
 have hS:=P2.mk a0 a1 af
 go_upto_region 3 with (first | (go_at_call 30; refine (KV.out _ kw).mono ?_; rintro e w9 ⟨rfl,k9⟩))
 clear a0 a1 af KV
 have hS:=hS.kept k9
 have hX3:=hX3.kept k9
 have hY3:=hY3.kept k9
 have HL:=hid (sL.out _ _ _ _ HL.out k9)
 have kw:=kw.trans k9
 have hgt : Hid (G < w9.heap.size):=Nat.lt_of_lt_of_le hgt.out k9.below.size
 clear k9
 go_upto_region 4 with (first | (go_at_call 31; refine (KF.out _ _ _ (.inl ⟨rfl,rfl⟩)).mono ?_; rintro e w9 ⟨rfl,k9⟩))
 have hS:=hS.kept k9
 have hX3:=hX3.kept k9
 have hY3:=hY3.kept k9
 have HL:=hid (sL.out _ _ _ _ HL.out k9)
 have kw:=kw.trans k9
 have hgt : Hid (G < w9.heap.size):=Nat.lt_of_lt_of_le hgt.out k9.below.size
 clear k9
 obtain ⟨a0,a1,af⟩:=hS
 have hS:=P2.mk a0 a1 af
 go_upto_region 5 with (first | (go_at_call 20; refine (KN.out _ kw).mono ?_; rintro e w9 ⟨rfl,k9⟩))
 clear a0 a1 af KN
 have hn:=P2.new w9 (.int .i64 n1) (.int .i64 n2) 23
 have k9':=k9.alloc #[.int .i64 n1,.int .i64 n2] 23
 have k99:=(Kept.refl w9).alloc #[.int .i64 n1,.int .i64 n2] 23
 obtain ⟨Y9,hY9⟩ : ∃ Y,Y = w9.alloc (.cells #[.int .i64 n1,.int .i64 n2] 23):=⟨_,rfl⟩
 obtain ⟨Bn,hB9⟩ : ∃ B,B = w9.heap.size:=⟨_,rfl⟩
 rw [← hY9] at hn k9' k99
 rw [← hB9] at hn
 rw [← hY9,← hB9]
 have HGn : Hid (G ≠ Bn):=(show _ ≠ _ from by have:=HG.out; have:=hgt.out; have:=k9.below.size; omega)
 have hS:=hS.kept k9'
 have hX3:=hX3.kept k9'
 have hY3:=hY3.kept k9'
 have HL:=hid (sL.out _ _ _ _ HL.out k9')
 have kw:=kw.trans k9'
 have hgt : Hid (G < Y9.heap.size):=Nat.lt_of_lt_of_le hgt.out k9'.below.size
 clear hY9 hB9 k9 k9' k99
 go_upto_region 6 with (first | (go_at_call 32; refine (KO.out _ kw).mono ?_; rintro e w9 ⟨rfl,k9⟩))
 clear KO
 have ho:=P2.new w9 (.int .i64 o1) (.int .i64 o2) 23
 have k9':=k9.alloc #[.int .i64 o1,.int .i64 o2] 23
 have k99:=(Kept.refl w9).alloc #[.int .i64 o1,.int .i64 o2] 23
 obtain ⟨Y9,hY9⟩ : ∃ Y,Y = w9.alloc (.cells #[.int .i64 o1,.int .i64 o2] 23):=⟨_,rfl⟩
 obtain ⟨Bo,hB9⟩ : ∃ B,B = w9.heap.size:=⟨_,rfl⟩
 rw [← hY9] at ho k9' k99
 rw [← hB9] at ho
 rw [← hY9,← hB9]
 have HGo : Hid (G ≠ Bo):=(show _ ≠ _ from by have:=HG.out; have:=hgt.out; have:=k9.below.size; omega)
 have hS:=hS.kept k9'
 have hX3:=hX3.kept k9'
 have hY3:=hY3.kept k9'
 have hn:=hn.kept k9'
 have HL:=hid (sL.out _ _ _ _ HL.out k9')
 have kw:=kw.trans k9'
 have hgt : Hid (G < Y9.heap.size):=Nat.lt_of_lt_of_le hgt.out k9'.below.size
 clear hY9 hB9 k9 k9' k99
 obtain ⟨b0,b1,b2⟩:=hY3
 have hY3:=P3.mk b0 b1 b2
 go_upto_region 7 with (first | (go_at_call 33; refine (KA.out _ _ _ kw HL.out).mono ?_; rintro e w9 ⟨rfl,k9⟩))
 clear b0 b1 b2 KA
 have ha:=P2.new w9 (.int .i64 a1) (.int .i64 a2) 23
 have k9':=k9.alloc #[.int .i64 a1,.int .i64 a2] 23
 have k99:=(Kept.refl w9).alloc #[.int .i64 a1,.int .i64 a2] 23
 obtain ⟨Y9,hY9⟩ : ∃ Y,Y = w9.alloc (.cells #[.int .i64 a1,.int .i64 a2] 23):=⟨_,rfl⟩
 obtain ⟨Ba,hB9⟩ : ∃ B,B = w9.heap.size:=⟨_,rfl⟩
 rw [← hY9] at ha k9' k99
 rw [← hB9] at ha
 rw [← hY9,← hB9]
 have HGa : Hid (G ≠ Ba):=(show _ ≠ _ from by have:=HG.out; have:=hgt.out; have:=k9.below.size; omega)
 have hS:=hS.kept k9'
 have hX3:=hX3.kept k9'
 have hY3:=hY3.kept k9'
 have hn:=hn.kept k9'
 have ho:=ho.kept k9'
 have HL:=hid (sL.out _ _ _ _ HL.out k9')
 have kw:=kw.trans k9'
 have hgt : Hid (G < Y9.heap.size):=Nat.lt_of_lt_of_le hgt.out k9'.below.size
 clear hY9 hB9 k9 k9' k99
 obtain ⟨p0,p1,pf⟩:=hS
 have hS:=P2.mk p0 p1 pf
 obtain ⟨q0,q1,q2⟩:=hY3
 have hY3:=P3.mk q0 q1 q2
 go_upto_region 8 with (first | (go_at_call 25; refine (KH.out _ _ _ kw HL.out).mono ?_; rintro e w9 ⟨rfl,k9⟩))
 clear p0 p1 pf q0 q1 q2 KH
 have hS:=hS.kept k9
 have hX3:=hX3.kept k9
 have hY3:=hY3.kept k9
 have hn:=hn.kept k9
 have ho:=ho.kept k9
 have ha:=ha.kept k9
 have HL:=hid (sL.out _ _ _ _ HL.out k9)
 have kw:=kw.trans k9
 have hgt : Hid (G < w9.heap.size):=Nat.lt_of_lt_of_le hgt.out k9.below.size
 clear k9
 obtain ⟨p0,p1,pf⟩:=hS
 have hS:=P2.mk p0 p1 pf
 go_upto_region 9 with (first | (go_at_call 34; refine (KG.out _ kw).mono ?_; rintro e w9 ⟨rfl,k9⟩))
 clear p0 p1 pf KG
 have hS:=hS.kept k9
 have hX3:=hX3.kept k9
 have hY3:=hY3.kept k9
 have hn:=hn.kept k9
 have ho:=ho.kept k9
 have ha:=ha.kept k9
 have HL:=hid (sL.out _ _ _ _ HL.out k9)
 have kw:=kw.trans k9
 have hgt : Hid (G < w9.heap.size):=Nat.lt_of_lt_of_le hgt.out k9.below.size
 clear k9
 obtain ⟨p0,p1,pf⟩:=hS
 have hS:=P2.mk p0 p1 pf
 go_upto_region 10 with (first | (go_at_call 35; refine (KP.out _ kw).mono ?_; rintro e w9 ⟨rfl,k9⟩))
 clear p0 p1 pf KP
 have hS:=hS.kept k9
 have hX3:=hX3.kept k9
 have hY3:=hY3.kept k9
 have hn:=hn.kept k9
 have ho:=ho.kept k9
 have ha:=ha.kept k9
 have HL:=hid (sL.out _ _ _ _ HL.out k9)
 have kw:=kw.trans k9
 have hgt : Hid (G < w9.heap.size):=Nat.lt_of_lt_of_le hgt.out k9.below.size
 clear k9
 have hovv : (ov != ov) = false:=by simp
 obtain ⟨p0,p1,pf⟩:=hS
 have hS:=P2.mk p0 p1 pf
 obtain ⟨q0,q1,q2⟩:=hX3
 have hX3:=P3.mk q0 q1 q2
 go_upto_region 12 with (first | (go_at_call 26; refine (KW.out _ kw).mono ?_; rintro e w9 ⟨rfl,k9⟩; have hX4:=hX3.kept k9; obtain ⟨q0,q1,q2⟩:=hX4) | (go_at_call 36; refine (KB.out _ _ _ (kw.trans k9) (sL.out _ _ _ _ HL.out k9)).mono ?_; rintro e w10 ⟨rfl,k10⟩))
 have hg:=HG.out
 have hS:=(hS.kept k9).grw5 k10 (fun c => by omega)
 have hX3:=(hX3.kept k9).grw5 k10 (fun c => by omega)
 have hn:=(hn.kept k9).grw5 k10 (fun c => HGn.out c.symm)
 have ho:=(ho.kept k9).grw5 k10 (fun c => HGo.out c.symm)
 have ha:=(ha.kept k9).grw5 k10 (fun c => HGa.out c.symm)
 have kw:=(kw.trans k9).grw5 hg.1 k10
 clear hg k9 k10 HL hgt hY3 KW KB hovv p0 p1 pf q0 q1 q2
 go_upto_region 13 with (first | (go_at_call 31; refine (KF.out _ _ _ (.inr ⟨rfl,rfl⟩)).mono ?_; rintro e w9 ⟨rfl,k9⟩))
 have hS:=hS.kept k9
 have hX3:=hX3.kept k9
 have hn:=hn.kept k9
 have ho:=ho.kept k9
 have ha:=ha.kept k9
 have kw:=kw.trans k9
 clear k9 KF HG HG2 HGn HGo HGa sL
 subst hei hej hek
 rcases hc with ⟨rfl,rfl,rfl,rfl,rfl,rfl⟩ | ⟨rfl,rfl,rfl,rfl,rfl,rfl,rfl,rfl⟩ | ⟨rfl,rfl,rfl,rfl,rfl,rfl,rfl,rfl⟩ | ⟨rfl,rfl,rfl,rfl,rfl,rfl,rfl,rfl⟩ | ⟨rfl,rfl,rfl,rfl,rfl,rfl,rfl,rfl⟩ | ⟨rfl,rfl,rfl,rfl,rfl,rfl,rfl,rfl⟩ | ⟨rfl,rfl,rfl,rfl,rfl,rfl,rfl,rfl⟩ | ⟨rfl,rfl,rfl,rfl,rfl,rfl,rfl,rfl⟩ | ⟨rfl,rfl,rfl,rfl,rfl,rfl,rfl,rfl⟩
 all_goals (
  obtain ⟨q0,q1,q2⟩:=hX3
  have hX3:=P3.mk q0 q1 q2
  go_upto_region 24 with (first | (go_at_call 37; refine (KFi.out _).mono ?_; rintro e w9 ⟨rfl,k9⟩; have hS:=hS.kept k9; have hX3:=hX3.kept k9; have hn:=hn.kept k9; have ho:=ho.kept k9; have ha:=ha.kept k9; have kw:=kw.trans k9; clear k9; obtain ⟨q0,q1,q2⟩:=hX3; have hX3:=P3.mk q0 q1 q2) | (go_at_call 38; refine (KVx.out _ kw).mono ?_; rintro e w9 ⟨rfl,k9⟩; have hS:=hS.kept k9; have hX3:=hX3.kept k9; have hn:=hn.kept k9; have ho:=ho.kept k9; have ha:=ha.kept k9; have kw:=kw.trans k9; clear k9; obtain ⟨q0,q1,q2⟩:=hX3; have hX3:=P3.mk q0 q1 q2))
  go_upto_region 25 with fail
  have hlt : Hid (B0 < w9.heap.size ∧ B1 < w9.heap.size ∧ Bn < w9.heap.size ∧ Bo < w9.heap.size ∧ Ba < w9.heap.size):=⟨hS.lt,hX3.lt,hn.lt,ho.lt,ha.lt⟩
  have hU : P2 (((w9.alloc (.cells #[.int .i64 0,.int .i64 0] 23)).alloc (.cells #[.int .i64 0,.int .i64 0] 23)).alloc (.cells #[.int .i64 0,.int .i64 0] 23)) w9.heap.size (.int .i64 0) (.int .i64 0):=((P2.new w9 (.int .i64 0) (.int .i64 0) 23).kept ((Kept.refl _).alloc #[.int .i64 0,.int .i64 0] 23)).kept ((Kept.refl _).alloc #[.int .i64 0,.int .i64 0] 23)
  have hV : P2 (((w9.alloc (.cells #[.int .i64 0,.int .i64 0] 23)).alloc (.cells #[.int .i64 0,.int .i64 0] 23)).alloc (.cells #[.int .i64 0,.int .i64 0] 23)) (w9.heap.size + 1) (.int .i64 0) (.int .i64 0):=by
   have:=(P2.new (w9.alloc (.cells #[.int .i64 0,.int .i64 0] 23)) (.int .i64 0) (.int .i64 0) 23).kept ((Kept.refl _).alloc #[.int .i64 0,.int .i64 0] 23)
   simpa using this
  have hZ : P2 (((w9.alloc (.cells #[.int .i64 0,.int .i64 0] 23)).alloc (.cells #[.int .i64 0,.int .i64 0] 23)).alloc (.cells #[.int .i64 0,.int .i64 0] 23)) (w9.heap.size + 1 + 1) (.int .i64 0) (.int .i64 0):=by
   have:=P2.new ((w9.alloc (.cells #[.int .i64 0,.int .i64 0] 23)).alloc (.cells #[.int .i64 0,.int .i64 0] 23)) (.int .i64 0) (.int .i64 0) 23
   simpa using this
  have kz : Kept w9 (((w9.alloc (.cells #[.int .i64 0,.int .i64 0] 23)).alloc (.cells #[.int .i64 0,.int .i64 0] 23)).alloc (.cells #[.int .i64 0,.int .i64 0] 23)):=(((Kept.refl w9).alloc _ _).alloc _ _).alloc _ _
  obtain ⟨W3,hW3⟩ : ∃ Y,Y = ((w9.alloc (.cells #[.int .i64 0,.int .i64 0] 23)).alloc (.cells #[.int .i64 0,.int .i64 0] 23)).alloc (.cells #[.int .i64 0,.int .i64 0] 23):=⟨_,rfl⟩
  obtain ⟨BU,hBU⟩ : ∃ B,B = w9.heap.size:=⟨_,rfl⟩
  obtain ⟨BV,hBV⟩ : ∃ B,B = BU + 1:=⟨_,rfl⟩
  obtain ⟨BZ,hBZ⟩ : ∃ B,B = BV + 1:=⟨_,rfl⟩
  rw [← hW3] at hU hV hZ kz
  rw [← hBU] at hU hV hZ
  rw [← hBV] at hV hZ
  rw [← hBZ] at hZ
  rw [← hW3,← hBU,← hBV,← hBZ]
  have hne : Hid ((∀ B,B < w9.heap.size → BU ≠ B ∧ BV ≠ B ∧ BZ ≠ B) ∧ (BU ≠ BV ∧ BV ≠ BU ∧ BU ≠ BZ ∧ BZ ≠ BU ∧ BV ≠ BZ ∧ BZ ≠ BV) ∧ (w.heap.size ≤ BU ∧ w.heap.size ≤ BV ∧ w.heap.size ≤ BZ)):=by
   have:=kw.below.size
   exact (show (_ ∧ (_ ∧ _ ∧ _ ∧ _ ∧ _ ∧ _) ∧ (_ ∧ _ ∧ _)) from ⟨fun B hB => by omega,by omega,by omega⟩)
  have hS:=hS.kept kz
  have hX3:=hX3.kept kz
  have hn:=hn.kept kz
  have ho:=ho.kept kz
  have ha:=ha.kept kz
  have kw:=kw.trans kz
  clear hW3 hBU hBV hBZ kz
  obtain ⟨p0,p1,pf⟩:=hS
  have hS:=P2.mk p0 p1 pf
  first
  | (
    go_upto_region 27 with (first | (go_at_call 39; refine (KRN.out (by first | trivial | rfl) _ kw).mono ?_; rintro e wA ⟨rfl,kA⟩; have hD:=hU.kept kA; obtain ⟨d0,d1,df⟩:=hD))
    obtain ⟨w9,hQ⟩ : ∃ Q,Q = (wA.setCell ⟨BU,0,none⟩ (.int .i64 u1)).setCell ⟨BU,1,none⟩ (.int .i64 u2):=⟨_,rfl⟩
    have hS:=((hS.kept kA).set5 BU 0 (hne.out.1 _ hlt.out.1).1 (.int .i64 u1)).set5 BU 1 (hne.out.1 _ hlt.out.1).1 (.int .i64 u2)
    have hX3:=((hX3.kept kA).set5 BU 0 (hne.out.1 _ hlt.out.2.1).1 (.int .i64 u1)).set5 BU 1 (hne.out.1 _ hlt.out.2.1).1 (.int .i64 u2)
    have hn:=((hn.kept kA).set5 BU 0 (hne.out.1 _ hlt.out.2.2.1).1 (.int .i64 u1)).set5 BU 1 (hne.out.1 _ hlt.out.2.2.1).1 (.int .i64 u2)
    have ho:=((ho.kept kA).set5 BU 0 (hne.out.1 _ hlt.out.2.2.2.1).1 (.int .i64 u1)).set5 BU 1 (hne.out.1 _ hlt.out.2.2.2.1).1 (.int .i64 u2)
    have ha:=((ha.kept kA).set5 BU 0 (hne.out.1 _ hlt.out.2.2.2.2).1 (.int .i64 u1)).set5 BU 1 (hne.out.1 _ hlt.out.2.2.2.2).1 (.int .i64 u2)
    have hV:=((hV.kept kA).set5 BU 0 hne.out.2.1.1 (.int .i64 u1)).set5 BU 1 hne.out.2.1.1 (.int .i64 u2)
    have hZ:=((hZ.kept kA).set5 BU 0 hne.out.2.1.2.2.1 (.int .i64 u1)).set5 BU 1 hne.out.2.1.2.2.1 (.int .i64 u2)
    have hU:=(hU.kept kA).put (.int .i64 u1) (.int .i64 u2)
    have kw:=((kw.trans kA).setCell (p:=⟨BU,0,none⟩) hne.out.2.2.1 (.int .i64 u1)).setCell (p:=⟨BU,1,none⟩) hne.out.2.2.1 (.int .i64 u2)
    rw [← hQ] at hS hX3 hn ho ha hV hZ hU kw
    rw [← hQ]
    clear hQ kA)
  | go_upto_region 27 with fail
  first
  | (
    go_upto_region 29 with (first | (go_at_call 40; refine (KRP.out (by first | trivial | rfl) _ kw).mono ?_; rintro e wA ⟨rfl,kA⟩; have hD:=hV.kept kA; obtain ⟨d0,d1,df⟩:=hD))
    obtain ⟨w9,hQ⟩ : ∃ Q,Q = (wA.setCell ⟨BV,0,none⟩ (.int .i64 v1)).setCell ⟨BV,1,none⟩ (.int .i64 v2):=⟨_,rfl⟩
    have hS:=((hS.kept kA).set5 BV 0 (hne.out.1 _ hlt.out.1).2.1 (.int .i64 v1)).set5 BV 1 (hne.out.1 _ hlt.out.1).2.1 (.int .i64 v2)
    have hX3:=((hX3.kept kA).set5 BV 0 (hne.out.1 _ hlt.out.2.1).2.1 (.int .i64 v1)).set5 BV 1 (hne.out.1 _ hlt.out.2.1).2.1 (.int .i64 v2)
    have hn:=((hn.kept kA).set5 BV 0 (hne.out.1 _ hlt.out.2.2.1).2.1 (.int .i64 v1)).set5 BV 1 (hne.out.1 _ hlt.out.2.2.1).2.1 (.int .i64 v2)
    have ho:=((ho.kept kA).set5 BV 0 (hne.out.1 _ hlt.out.2.2.2.1).2.1 (.int .i64 v1)).set5 BV 1 (hne.out.1 _ hlt.out.2.2.2.1).2.1 (.int .i64 v2)
    have ha:=((ha.kept kA).set5 BV 0 (hne.out.1 _ hlt.out.2.2.2.2).2.1 (.int .i64 v1)).set5 BV 1 (hne.out.1 _ hlt.out.2.2.2.2).2.1 (.int .i64 v2)
    have hU:=((hU.kept kA).set5 BV 0 hne.out.2.1.2.1 (.int .i64 v1)).set5 BV 1 hne.out.2.1.2.1 (.int .i64 v2)
    have hZ:=((hZ.kept kA).set5 BV 0 hne.out.2.1.2.2.2.2.1 (.int .i64 v1)).set5 BV 1 hne.out.2.1.2.2.2.2.1 (.int .i64 v2)
    have hV:=(hV.kept kA).put (.int .i64 v1) (.int .i64 v2)
    have kw:=((kw.trans kA).setCell (p:=⟨BV,0,none⟩) hne.out.2.2.2.1 (.int .i64 v1)).setCell (p:=⟨BV,1,none⟩) hne.out.2.2.2.1 (.int .i64 v2)
    rw [← hQ] at hS hX3 hn ho ha hU hZ hV kw
    rw [← hQ]
    clear hQ kA)
  | go_upto_region 29 with fail
  obtain ⟨q0,q1,q2⟩:=hX3
  have hX3:=P3.mk q0 q1 q2
  first
  | (
    go_upto_region 31 with (first | (go_at_call 41; refine (KRA.out (by first | trivial | rfl) _ kw).mono ?_; rintro e wA ⟨rfl,kA⟩; have hD:=hZ.kept kA; obtain ⟨d0,d1,df⟩:=hD))
    obtain ⟨w9,hQ⟩ : ∃ Q,Q = (wA.setCell ⟨BZ,0,none⟩ (.int .i64 z1)).setCell ⟨BZ,1,none⟩ (.int .i64 z2):=⟨_,rfl⟩
    have hS:=((hS.kept kA).set5 BZ 0 (hne.out.1 _ hlt.out.1).2.2 (.int .i64 z1)).set5 BZ 1 (hne.out.1 _ hlt.out.1).2.2 (.int .i64 z2)
    have hX3:=((hX3.kept kA).set5 BZ 0 (hne.out.1 _ hlt.out.2.1).2.2 (.int .i64 z1)).set5 BZ 1 (hne.out.1 _ hlt.out.2.1).2.2 (.int .i64 z2)
    have hn:=((hn.kept kA).set5 BZ 0 (hne.out.1 _ hlt.out.2.2.1).2.2 (.int .i64 z1)).set5 BZ 1 (hne.out.1 _ hlt.out.2.2.1).2.2 (.int .i64 z2)
    have ho:=((ho.kept kA).set5 BZ 0 (hne.out.1 _ hlt.out.2.2.2.1).2.2 (.int .i64 z1)).set5 BZ 1 (hne.out.1 _ hlt.out.2.2.2.1).2.2 (.int .i64 z2)
    have ha:=((ha.kept kA).set5 BZ 0 (hne.out.1 _ hlt.out.2.2.2.2).2.2 (.int .i64 z1)).set5 BZ 1 (hne.out.1 _ hlt.out.2.2.2.2).2.2 (.int .i64 z2)
    have hU:=((hU.kept kA).set5 BZ 0 hne.out.2.1.2.2.2.1 (.int .i64 z1)).set5 BZ 1 hne.out.2.1.2.2.2.1 (.int .i64 z2)
    have hV:=((hV.kept kA).set5 BZ 0 hne.out.2.1.2.2.2.2.2 (.int .i64 z1)).set5 BZ 1 hne.out.2.1.2.2.2.2.2 (.int .i64 z2)
    have hZ:=(hZ.kept kA).put (.int .i64 z1) (.int .i64 z2)
    have kw:=((kw.trans kA).setCell (p:=⟨BZ,0,none⟩) hne.out.2.2.2.2 (.int .i64 z1)).setCell (p:=⟨BZ,1,none⟩) hne.out.2.2.2.2 (.int .i64 z2)
    rw [← hQ] at hS hX3 hn ho ha hU hV hZ kw
    rw [← hQ]
    clear hQ kA)
  | go_upto_region 31 with fail
  obtain ⟨i0,i1,if5⟩:=hn
  have hn:=P2.mk i0 i1 if5
  obtain ⟨j0,j1,jf⟩:=ho
  have ho:=P2.mk j0 j1 jf
  obtain ⟨y0,y1,yf⟩:=ha
  have ha:=P2.mk y0 y1 yf
  obtain ⟨g0,g1,gf⟩:=hU
  have hU:=P2.mk g0 g1 gf
  obtain ⟨x0,x1,xf⟩:=hV
  have hV:=P2.mk x0 x1 xf
  obtain ⟨m0,m1,mf⟩:=hZ
  have hZ:=P2.mk m0 m1 mf
  go_upto_region 33 with (first | (go_at_call 42; refine (KI.out _ _ _ _ _ _ _ (by first | exact .inl ⟨rfl,rfl,rfl,rfl,rfl,rfl⟩ | exact .inr (.inl ⟨rfl,rfl,rfl,rfl,rfl,rfl⟩) | exact .inr (.inr ⟨rfl,rfl,rfl,rfl,rfl,rfl⟩))).mono ?_; rintro e w9 ⟨rfl,k9⟩; have hS:=hS.kept k9; have hX3:=hX3.kept k9; have hn:=hn.kept k9; have ho:=ho.kept k9; have ha:=ha.kept k9; have hU:=hU.kept k9; have hV:=hV.kept k9; have hZ:=hZ.kept k9; have kw:=kw.trans k9; clear k9; obtain ⟨i0,i1,if5⟩:=hn; have hn:=P2.mk i0 i1 if5; obtain ⟨j0,j1,jf⟩:=ho; have ho:=P2.mk j0 j1 jf; obtain ⟨y0,y1,yf⟩:=ha; have ha:=P2.mk y0 y1 yf; obtain ⟨g0,g1,gf⟩:=hU; have hU:=P2.mk g0 g1 gf; obtain ⟨x0,x1,xf⟩:=hV; have hV:=P2.mk x0 x1 xf; obtain ⟨m0,m1,mf⟩:=hZ; have hZ:=P2.mk m0 m1 mf))
  have HS : Hid (∀ u,Kept w9 u → Kept w9 u ∧ u.cell? ⟨B0,0,none⟩ = some (.int .i64 lo) ∧ u.cell? ⟨B0,1,none⟩ = some (.int .i64 hi) ∧ u.cell? ⟨B1,0,none⟩ = some (.bool xn) ∧ u.cell? ⟨B1,1,none⟩ = some (.slice ao xl xc) ∧ u.cell? ⟨B1,2,none⟩ = some (.int .i64 xx)):=fun u k => ⟨k,(hS.kept k).c0,(hS.kept k).c1,(hX3.kept k).c0,(hX3.kept k).c1,(hX3.kept k).c2⟩
  clear i0 i1 if5 j0 j1 jf y0 y1 yf g0 g1 gf x0 x1 xf m0 m1 mf hn ho ha hU hV hZ hlt hne KI KFi KVx KRN KRP KRA)
 iterate 5 (
  refine wp_region_late [] (fun u => Kept w9 u ∧ u.cell? ⟨B0,0,none⟩ = some (.int .i64 lo) ∧ u.cell? ⟨B0,1,none⟩ = some (.int .i64 hi) ∧ u.cell? ⟨B1,0,none⟩ = some (.bool xn) ∧ u.cell? ⟨B1,1,none⟩ = some (.slice ao xl xc) ∧ u.cell? ⟨B1,2,none⟩ = some (.int .i64 xx)) (by kernel_rfl) (HS.out _ (Kept.refl w9).drew) (fun hHeld => ?_)
  refine tkD (i:=0) (v:=?_) rfl hHeld ?_
  (try simp only [Act.put,zA,zB,zC,zD,zE,zF])
  refine tkD (i:=1) (v:=?_) rfl hHeld ?_
  (try simp only [Act.put,zA,zB,zC,zD,zE,zF])
  refine tkD (i:=2) (v:=?_) rfl hHeld ?_
  (try simp only [Act.put,zA,zB,zC,zD,zE,zF])
  refine tkD (i:=3) (v:=?_) rfl hHeld ?_
  (try simp only [Act.put,zA,zB,zC,zD,zE,zF])
  refine wpAnyD_take (i:=4) (v:=undef) rfl (by kernel_rfl) (by kernel_rfl) (by kernel_rfl) (by kernel_rfl) (fun _ _ _ h => h) (Or.inr ⟨by rfl,rfl⟩) hHeld ?_
  (try simp only [Act.put,zA,zB,zC,zD,zE,zF])
  refine wpAnyD_take (i:=5) (v:=undef) rfl (by kernel_rfl) (by kernel_rfl) (by kernel_rfl) (by kernel_rfl) (fun _ _ _ h => h) (Or.inr ⟨by rfl,rfl⟩) hHeld ?_
  (try simp only [Act.put,zA,zB,zC,zD,zE,zF])
  refine wpAnyD_take (i:=6) (v:=undef) rfl (by kernel_rfl) (by kernel_rfl) (by kernel_rfl) (by kernel_rfl) (fun _ _ _ h => h) (Or.inr ⟨by rfl,rfl⟩) hHeld ?_
  (try simp only [Act.put,zA,zB,zC,zD,zE,zF])
  refine wpAnyD_take (i:=7) (v:=undef) rfl (by kernel_rfl) (by kernel_rfl) (by kernel_rfl) (by kernel_rfl) (fun _ _ _ h => h) (Or.inr ⟨by rfl,rfl⟩) hHeld ?_
  (try simp only [Act.put,zA,zB,zC,zD,zE,zF])
  refine tkD (i:=8) (v:=?_) rfl hHeld ?_
  (try simp only [Act.put,zA,zB,zC,zD,zE,zF])
  refine tkD (i:=9) (v:=?_) rfl hHeld ?_
  (try simp only [Act.put,zA,zB,zC,zD,zE,zF])
  refine tkD (i:=10) (v:=?_) rfl hHeld ?_
  (try simp only [Act.put,zA,zB,zC,zD,zE,zF])
  refine tkD (i:=11) (v:=?_) rfl hHeld ?_
  (try simp only [Act.put,zA,zB,zC,zD,zE,zF])
  refine tkD (i:=12) (v:=?_) rfl hHeld ?_
  (try simp only [Act.put,zA,zB,zC,zD,zE,zF])
  refine tkD (i:=13) (v:=?_) rfl hHeld ?_
  (try simp only [Act.put,zA,zB,zC,zD,zE,zF])
  refine tkD (i:=14) (v:=?_) rfl hHeld ?_
  (try simp only [Act.put,zA,zB,zC,zD,zE,zF])
  refine wpAnyD_take (i:=15) (v:=undef) rfl (by kernel_rfl) (by kernel_rfl) (by kernel_rfl) (by kernel_rfl) (fun _ _ _ h => h) (Or.inr ⟨by rfl,rfl⟩) hHeld ?_
  (try simp only [Act.put,zA,zB,zC,zD,zE,zF])
  refine wpAnyD_take (i:=16) (v:=undef) rfl (by kernel_rfl) (by kernel_rfl) (by kernel_rfl) (by kernel_rfl) (fun _ _ _ h => h) (Or.inr ⟨by rfl,rfl⟩) hHeld ?_
  (try simp only [Act.put,zA,zB,zC,zD,zE,zF])
  refine wpAnyD_take (i:=17) (v:=undef) rfl (by kernel_rfl) (by kernel_rfl) (by kernel_rfl) (by kernel_rfl) (fun _ _ _ h => h) (Or.inr ⟨by rfl,rfl⟩) hHeld ?_
  (try simp only [Act.put,zA,zB,zC,zD,zE,zF])
  refine wpAnyD_take (i:=18) (v:=undef) rfl (by kernel_rfl) (by kernel_rfl) (by kernel_rfl) (by kernel_rfl) (fun _ _ _ h => h) (Or.inr ⟨by rfl,rfl⟩) hHeld ?_
  (try simp only [Act.put,zA,zB,zC,zD,zE,zF])
  refine wpAnyD_take (i:=19) (v:=undef) rfl (by kernel_rfl) (by kernel_rfl) (by kernel_rfl) (by kernel_rfl) (fun _ _ _ h => h) (Or.inr ⟨by rfl,rfl⟩) hHeld ?_
  (try simp only [Act.put,zA,zB,zC,zD,zE,zF])
  refine wpAnyD_take (i:=20) (v:=undef) rfl (by kernel_rfl) (by kernel_rfl) (by kernel_rfl) (by kernel_rfl) (fun _ _ _ h => h) (Or.inr ⟨by rfl,rfl⟩) hHeld ?_
  (try simp only [Act.put,zA,zB,zC,zD,zE,zF])
  refine tkD (i:=21) (v:=?_) rfl hHeld ?_
  (try simp only [Act.put,zA,zB,zC,zD,zE,zF])
  refine tkD (i:=22) (v:=?_) rfl hHeld ?_
  (try simp only [Act.put,zA,zB,zC,zD,zE,zF])
  refine tkD (i:=23) (v:=?_) rfl hHeld ?_
  (try simp only [Act.put,zA,zB,zC,zD,zE,zF])
  refine tkD (i:=24) (v:=?_) rfl hHeld ?_
  (try simp only [Act.put,zA,zB,zC,zD,zE,zF])
  refine tkD (i:=25) (v:=?_) rfl hHeld ?_
  (try simp only [Act.put,zA,zB,zC,zD,zE,zF])
  refine tkD (i:=26) (v:=?_) rfl hHeld ?_
  (try simp only [Act.put,zA,zB,zC,zD,zE,zF])
  refine tkD (i:=27) (v:=?_) rfl hHeld ?_
  (try simp only [Act.put,zA,zB,zC,zD,zE,zF])
  refine tkD (i:=28) (v:=?_) rfl hHeld ?_
  (try simp only [Act.put,zA,zB,zC,zD,zE,zF])
  refine wpAnyD_take (i:=29) (v:=undef) rfl (by kernel_rfl) (by kernel_rfl) (by kernel_rfl) (by kernel_rfl) (fun _ _ _ h => h) (Or.inr ⟨by rfl,rfl⟩) hHeld ?_
  (try simp only [Act.put,zA,zB,zC,zD,zE,zF])
  refine wpAnyD_take (i:=30) (v:=undef) rfl (by kernel_rfl) (by kernel_rfl) (by kernel_rfl) (by kernel_rfl) (fun _ _ _ h => h) (Or.inr ⟨by rfl,rfl⟩) hHeld ?_
  (try simp only [Act.put,zA,zB,zC,zD,zE,zF])
  refine wpAnyD_take (i:=31) (v:=undef) rfl (by kernel_rfl) (by kernel_rfl) (by kernel_rfl) (by kernel_rfl) (fun _ _ _ h => h) (Or.inr ⟨by rfl,rfl⟩) hHeld ?_
  (try simp only [Act.put,zA,zB,zC,zD,zE,zF])
  refine tkD (i:=32) (v:=?_) rfl hHeld ?_
  (try simp only [Act.put,zA,zB,zC,zD,zE,zF])
  refine tkD (i:=33) (v:=?_) rfl hHeld ?_
  (try simp only [Act.put,zA,zB,zC,zD,zE,zF])
  refine tkD (i:=34) (v:=?_) rfl hHeld ?_
  (try simp only [Act.put,zA,zB,zC,zD,zE,zF])
  refine tkD (i:=35) (v:=?_) rfl hHeld ?_
  (try simp only [Act.put,zA,zB,zC,zD,zE,zF])
  refine wpAnyD_done (by kernel_rfl) ?_ _
  (try simp only [Act.put,zA,zB,zC,zD,zE,zF])
  go_wp2_with fail
  go_ret
  exact ⟨rfl,kw.trans hHeld.1⟩)
 ·skip
  refine wp_region_late [] (fun u => Kept w9 u ∧ u.cell? ⟨B0,0,none⟩ = some (.int .i64 lo) ∧ u.cell? ⟨B0,1,none⟩ = some (.int .i64 hi) ∧ u.cell? ⟨B1,0,none⟩ = some (.bool xn) ∧ u.cell? ⟨B1,1,none⟩ = some (.slice ao xl xc) ∧ u.cell? ⟨B1,2,none⟩ = some (.int .i64 xx)) (by kernel_rfl) (HS.out _ (Kept.refl w9).drew) (fun hHeld => ?_)
  refine tkD (i:=0) (v:=?_) rfl hHeld ?_
  (try simp only [Act.put,zA,zB,zC,zD,zE,zF])
  refine tkD (i:=1) (v:=?_) rfl hHeld ?_
  (try simp only [Act.put,zA,zB,zC,zD,zE,zF])
  refine tkD (i:=2) (v:=?_) rfl hHeld ?_
  (try simp only [Act.put,zA,zB,zC,zD,zE,zF])
  refine tkD (i:=3) (v:=?_) rfl hHeld ?_
  (try simp only [Act.put,zA,zB,zC,zD,zE,zF])
  refine tkD (i:=4) (v:=?_) rfl hHeld ?_
  (try simp only [Act.put,zA,zB,zC,zD,zE,zF])
  refine tkD (i:=5) (v:=?_) rfl hHeld ?_
  (try simp only [Act.put,zA,zB,zC,zD,zE,zF])
  refine tkD (i:=6) (v:=?_) rfl hHeld ?_
  (try simp only [Act.put,zA,zB,zC,zD,zE,zF])
  refine wpAnyD_step (i:=7) (by kernel_rfl) rfl (fun K hK9 => ?_)
  go_simp
  go_wp2_with fail
  refine (KHx.out (by first | trivial | rfl) _ (kw.trans hHeld.1)).mono ?_
  rintro e u1 ⟨rfl,k1⟩
  refine hK9.out _ _ (HS.out _ (hHeld.1.trans k1)) (fun hH1 => ?_)
  clear hK9 K
  (try simp only [Act.put,zA,zB,zC,zD,zE,zF])
  refine tkD (i:=8) (v:=?_) rfl hH1 ?_
  (try simp only [Act.put,zA,zB,zC,zD,zE,zF])
  refine tkD (i:=9) (v:=?_) rfl hH1 ?_
  (try simp only [Act.put,zA,zB,zC,zD,zE,zF])
  refine tkD (i:=10) (v:=?_) rfl hH1 ?_
  (try simp only [Act.put,zA,zB,zC,zD,zE,zF])
  refine tkD (i:=11) (v:=?_) rfl hH1 ?_
  (try simp only [Act.put,zA,zB,zC,zD,zE,zF])
  refine tkD (i:=12) (v:=?_) rfl hH1 ?_
  (try simp only [Act.put,zA,zB,zC,zD,zE,zF])
  refine tkD (i:=13) (v:=?_) rfl hH1 ?_
  (try simp only [Act.put,zA,zB,zC,zD,zE,zF])
  refine tkD (i:=14) (v:=?_) rfl hH1 ?_
  (try simp only [Act.put,zA,zB,zC,zD,zE,zF])
  refine tkD (i:=15) (v:=?_) rfl hH1 ?_
  (try simp only [Act.put,zA,zB,zC,zD,zE,zF])
  refine tkD (i:=16) (v:=?_) rfl hH1 ?_
  (try simp only [Act.put,zA,zB,zC,zD,zE,zF])
  refine tkD (i:=17) (v:=?_) rfl hH1 ?_
  (try simp only [Act.put,zA,zB,zC,zD,zE,zF])
  refine tkD (i:=19) (v:=?_) rfl hH1 ?_
  (try simp only [Act.put,zA,zB,zC,zD,zE,zF])
  refine wpAnyD_step (i:=18) (by kernel_rfl) rfl (fun K hK9 => ?_)
  go_simp
  go_wp2_with fail
  refine (KX.out (by first | trivial | rfl) _ (kw.trans hH1.1)).mono ?_
  rintro e u2 ⟨vx,rfl,hvx,k2⟩
  refine hK9.out _ _ (HS.out _ (hH1.1.trans k2)) (fun hH2 => ?_)
  clear hK9 K
  (try simp only [Act.put,zA,zB,zC,zD,zE,zF])
  refine wpAnyD_step (i:=20) (by kernel_rfl) rfl (fun K hK9 => ?_)
  go_simp
  go_wp2_with fail
  refine (KHb.out (by first | trivial | rfl) _ _ (kw.trans hH2.1) hvx).mono ?_
  rintro e u3 ⟨rfl,k3⟩
  refine hK9.out _ _ (HS.out _ (hH2.1.trans k3)) (fun hH3 => ?_)
  clear hK9 K
  (try simp only [Act.put,zA,zB,zC,zD,zE,zF])
  refine tkD (i:=21) (v:=?_) rfl hH3 ?_
  (try simp only [Act.put,zA,zB,zC,zD,zE,zF])
  refine tkD (i:=22) (v:=?_) rfl hH3 ?_
  (try simp only [Act.put,zA,zB,zC,zD,zE,zF])
  refine tkD (i:=23) (v:=?_) rfl hH3 ?_
  (try simp only [Act.put,zA,zB,zC,zD,zE,zF])
  refine tkD (i:=24) (v:=?_) rfl hH3 ?_
  (try simp only [Act.put,zA,zB,zC,zD,zE,zF])
  refine tkD (i:=25) (v:=?_) rfl hH3 ?_
  (try simp only [Act.put,zA,zB,zC,zD,zE,zF])
  refine tkD (i:=26) (v:=?_) rfl hH3 ?_
  (try simp only [Act.put,zA,zB,zC,zD,zE,zF])
  refine tkD (i:=27) (v:=?_) rfl hH3 ?_
  (try simp only [Act.put,zA,zB,zC,zD,zE,zF])
  refine tkD (i:=28) (v:=?_) rfl hH3 ?_
  (try simp only [Act.put,zA,zB,zC,zD,zE,zF])
  refine tkD (i:=29) (v:=?_) rfl hH3 ?_
  (try simp only [Act.put,zA,zB,zC,zD,zE,zF])
  refine tkD (i:=30) (v:=?_) rfl hH3 ?_
  (try simp only [Act.put,zA,zB,zC,zD,zE,zF])
  refine wpAnyD_step (i:=31) (by kernel_rfl) rfl (fun K hK9 => ?_)
  go_simp
  go_wp2_with fail
  refine (KSg.out (by first | trivial | rfl) _ (kw.trans hH3.1)).mono ?_
  rintro e u4 ⟨rfl,k4⟩
  refine hK9.out _ _ (HS.out _ (hH3.1.trans k4)) (fun hH4 => ?_)
  clear hK9 K
  (try simp only [Act.put,zA,zB,zC,zD,zE,zF])
  refine tkD (i:=32) (v:=?_) rfl hH4 ?_
  (try simp only [Act.put,zA,zB,zC,zD,zE,zF])
  refine tkD (i:=33) (v:=?_) rfl hH4 ?_
  (try simp only [Act.put,zA,zB,zC,zD,zE,zF])
  refine tkD (i:=34) (v:=?_) rfl hH4 ?_
  (try simp only [Act.put,zA,zB,zC,zD,zE,zF])
  refine tkD (i:=35) (v:=?_) rfl hH4 ?_
  (try simp only [Act.put,zA,zB,zC,zD,zE,zF])
  refine wpAnyD_done (by kernel_rfl) ?_ _
  (try simp only [Act.put,zA,zB,zC,zD,zE,zF])
  go_wp2_with fail
  go_ret
  exact ⟨rfl,kw.trans hH4.1⟩
 ·skip
  refine wp_region_late [] (fun u => Kept w9 u ∧ u.cell? ⟨B0,0,none⟩ = some (.int .i64 lo) ∧ u.cell? ⟨B0,1,none⟩ = some (.int .i64 hi) ∧ u.cell? ⟨B1,0,none⟩ = some (.bool xn) ∧ u.cell? ⟨B1,1,none⟩ = some (.slice ao xl xc) ∧ u.cell? ⟨B1,2,none⟩ = some (.int .i64 xx)) (by kernel_rfl) (HS.out _ (Kept.refl w9).drew) (fun hHeld => ?_)
  refine tkD (i:=0) (v:=?_) rfl hHeld ?_
  (try simp only [Act.put,zA,zB,zC,zD,zE,zF])
  refine tkD (i:=1) (v:=?_) rfl hHeld ?_
  (try simp only [Act.put,zA,zB,zC,zD,zE,zF])
  refine tkD (i:=2) (v:=?_) rfl hHeld ?_
  (try simp only [Act.put,zA,zB,zC,zD,zE,zF])
  refine tkD (i:=3) (v:=?_) rfl hHeld ?_
  (try simp only [Act.put,zA,zB,zC,zD,zE,zF])
  refine wpAnyD_take (i:=4) (v:=undef) rfl (by kernel_rfl) (by kernel_rfl) (by kernel_rfl) (by kernel_rfl) (fun _ _ _ h => h) (Or.inr ⟨by rfl,rfl⟩) hHeld ?_
  (try simp only [Act.put,zA,zB,zC,zD,zE,zF])
  refine wpAnyD_take (i:=5) (v:=undef) rfl (by kernel_rfl) (by kernel_rfl) (by kernel_rfl) (by kernel_rfl) (fun _ _ _ h => h) (Or.inr ⟨by rfl,rfl⟩) hHeld ?_
  (try simp only [Act.put,zA,zB,zC,zD,zE,zF])
  refine wpAnyD_take (i:=6) (v:=undef) rfl (by kernel_rfl) (by kernel_rfl) (by kernel_rfl) (by kernel_rfl) (fun _ _ _ h => h) (Or.inr ⟨by rfl,rfl⟩) hHeld ?_
  (try simp only [Act.put,zA,zB,zC,zD,zE,zF])
  refine wpAnyD_take (i:=7) (v:=undef) rfl (by kernel_rfl) (by kernel_rfl) (by kernel_rfl) (by kernel_rfl) (fun _ _ _ h => h) (Or.inr ⟨by rfl,rfl⟩) hHeld ?_
  (try simp only [Act.put,zA,zB,zC,zD,zE,zF])
  refine tkD (i:=8) (v:=?_) rfl hHeld ?_
  (try simp only [Act.put,zA,zB,zC,zD,zE,zF])
  refine tkD (i:=9) (v:=?_) rfl hHeld ?_
  (try simp only [Act.put,zA,zB,zC,zD,zE,zF])
  refine tkD (i:=10) (v:=?_) rfl hHeld ?_
  (try simp only [Act.put,zA,zB,zC,zD,zE,zF])
  refine tkD (i:=11) (v:=?_) rfl hHeld ?_
  (try simp only [Act.put,zA,zB,zC,zD,zE,zF])
  refine tkD (i:=12) (v:=?_) rfl hHeld ?_
  (try simp only [Act.put,zA,zB,zC,zD,zE,zF])
  refine tkD (i:=13) (v:=?_) rfl hHeld ?_
  (try simp only [Act.put,zA,zB,zC,zD,zE,zF])
  refine tkD (i:=14) (v:=?_) rfl hHeld ?_
  (try simp only [Act.put,zA,zB,zC,zD,zE,zF])
  refine tkD (i:=15) (v:=?_) rfl hHeld ?_
  (try simp only [Act.put,zA,zB,zC,zD,zE,zF])
  refine tkD (i:=16) (v:=?_) rfl hHeld ?_
  (try simp only [Act.put,zA,zB,zC,zD,zE,zF])
  refine tkD (i:=17) (v:=?_) rfl hHeld ?_
  (try simp only [Act.put,zA,zB,zC,zD,zE,zF])
  refine tkD (i:=19) (v:=?_) rfl hHeld ?_
  (try simp only [Act.put,zA,zB,zC,zD,zE,zF])
  refine wpAnyD_step (i:=18) (by kernel_rfl) rfl (fun K hK9 => ?_)
  go_simp
  go_wp2_with fail
  refine (KX.out (by first | trivial | rfl) _ (kw.trans hHeld.1)).mono ?_
  rintro e u2 ⟨vx,rfl,hvx,k2⟩
  refine hK9.out _ _ (HS.out _ (hHeld.1.trans k2)) (fun hH2 => ?_)
  clear hK9 K
  (try simp only [Act.put,zA,zB,zC,zD,zE,zF])
  refine wpAnyD_step (i:=20) (by kernel_rfl) rfl (fun K hK9 => ?_)
  go_simp
  go_wp2_with fail
  refine (KHb.out (by first | trivial | rfl) _ _ (kw.trans hH2.1) hvx).mono ?_
  rintro e u3 ⟨rfl,k3⟩
  refine hK9.out _ _ (HS.out _ (hH2.1.trans k3)) (fun hH3 => ?_)
  clear hK9 K
  (try simp only [Act.put,zA,zB,zC,zD,zE,zF])
  refine tkD (i:=21) (v:=?_) rfl hH3 ?_
  (try simp only [Act.put,zA,zB,zC,zD,zE,zF])
  refine tkD (i:=22) (v:=?_) rfl hH3 ?_
  (try simp only [Act.put,zA,zB,zC,zD,zE,zF])
  refine tkD (i:=23) (v:=?_) rfl hH3 ?_
  (try simp only [Act.put,zA,zB,zC,zD,zE,zF])
  refine tkD (i:=24) (v:=?_) rfl hH3 ?_
  (try simp only [Act.put,zA,zB,zC,zD,zE,zF])
  refine tkD (i:=25) (v:=?_) rfl hH3 ?_
  (try simp only [Act.put,zA,zB,zC,zD,zE,zF])
  refine tkD (i:=26) (v:=?_) rfl hH3 ?_
  (try simp only [Act.put,zA,zB,zC,zD,zE,zF])
  refine tkD (i:=27) (v:=?_) rfl hH3 ?_
  (try simp only [Act.put,zA,zB,zC,zD,zE,zF])
  refine tkD (i:=28) (v:=?_) rfl hH3 ?_
  (try simp only [Act.put,zA,zB,zC,zD,zE,zF])
  refine tkD (i:=29) (v:=?_) rfl hH3 ?_
  (try simp only [Act.put,zA,zB,zC,zD,zE,zF])
  refine tkD (i:=30) (v:=?_) rfl hH3 ?_
  (try simp only [Act.put,zA,zB,zC,zD,zE,zF])
  refine wpAnyD_step (i:=31) (by kernel_rfl) rfl (fun K hK9 => ?_)
  go_simp
  go_wp2_with fail
  refine (KSg.out (by first | trivial | rfl) _ (kw.trans hH3.1)).mono ?_
  rintro e u4 ⟨rfl,k4⟩
  refine hK9.out _ _ (HS.out _ (hH3.1.trans k4)) (fun hH4 => ?_)
  clear hK9 K
  (try simp only [Act.put,zA,zB,zC,zD,zE,zF])
  refine tkD (i:=32) (v:=?_) rfl hH4 ?_
  (try simp only [Act.put,zA,zB,zC,zD,zE,zF])
  refine tkD (i:=33) (v:=?_) rfl hH4 ?_
  (try simp only [Act.put,zA,zB,zC,zD,zE,zF])
  refine tkD (i:=34) (v:=?_) rfl hH4 ?_
  (try simp only [Act.put,zA,zB,zC,zD,zE,zF])
  refine tkD (i:=35) (v:=?_) rfl hH4 ?_
  (try simp only [Act.put,zA,zB,zC,zD,zE,zF])
  refine wpAnyD_done (by kernel_rfl) ?_ _
  (try simp only [Act.put,zA,zB,zC,zD,zE,zF])
  go_wp2_with fail
  go_ret
  exact ⟨rfl,kw.trans hH4.1⟩
 ·skip
  refine wp_region_late [] (fun u => Kept w9 u ∧ u.cell? ⟨B0,0,none⟩ = some (.int .i64 lo) ∧ u.cell? ⟨B0,1,none⟩ = some (.int .i64 hi) ∧ u.cell? ⟨B1,0,none⟩ = some (.bool xn) ∧ u.cell? ⟨B1,1,none⟩ = some (.slice ao xl xc) ∧ u.cell? ⟨B1,2,none⟩ = some (.int .i64 xx)) (by kernel_rfl) (HS.out _ (Kept.refl w9).drew) (fun hHeld => ?_)
  refine tkD (i:=0) (v:=?_) rfl hHeld ?_
  (try simp only [Act.put,zA,zB,zC,zD,zE,zF])
  refine tkD (i:=1) (v:=?_) rfl hHeld ?_
  (try simp only [Act.put,zA,zB,zC,zD,zE,zF])
  refine tkD (i:=2) (v:=?_) rfl hHeld ?_
  (try simp only [Act.put,zA,zB,zC,zD,zE,zF])
  refine tkD (i:=3) (v:=?_) rfl hHeld ?_
  (try simp only [Act.put,zA,zB,zC,zD,zE,zF])
  refine tkD (i:=4) (v:=?_) rfl hHeld ?_
  (try simp only [Act.put,zA,zB,zC,zD,zE,zF])
  refine tkD (i:=5) (v:=?_) rfl hHeld ?_
  (try simp only [Act.put,zA,zB,zC,zD,zE,zF])
  refine tkD (i:=6) (v:=?_) rfl hHeld ?_
  (try simp only [Act.put,zA,zB,zC,zD,zE,zF])
  refine wpAnyD_step (i:=7) (by kernel_rfl) rfl (fun K hK9 => ?_)
  go_simp
  go_wp2_with fail
  refine (KHx.out (by first | trivial | rfl) _ (kw.trans hHeld.1)).mono ?_
  rintro e u1 ⟨rfl,k1⟩
  refine hK9.out _ _ (HS.out _ (hHeld.1.trans k1)) (fun hH1 => ?_)
  clear hK9 K
  (try simp only [Act.put,zA,zB,zC,zD,zE,zF])
  refine tkD (i:=8) (v:=?_) rfl hH1 ?_
  (try simp only [Act.put,zA,zB,zC,zD,zE,zF])
  refine tkD (i:=9) (v:=?_) rfl hH1 ?_
  (try simp only [Act.put,zA,zB,zC,zD,zE,zF])
  refine tkD (i:=10) (v:=?_) rfl hH1 ?_
  (try simp only [Act.put,zA,zB,zC,zD,zE,zF])
  refine tkD (i:=11) (v:=?_) rfl hH1 ?_
  (try simp only [Act.put,zA,zB,zC,zD,zE,zF])
  refine tkD (i:=12) (v:=?_) rfl hH1 ?_
  (try simp only [Act.put,zA,zB,zC,zD,zE,zF])
  refine tkD (i:=13) (v:=?_) rfl hH1 ?_
  (try simp only [Act.put,zA,zB,zC,zD,zE,zF])
  refine tkD (i:=14) (v:=?_) rfl hH1 ?_
  (try simp only [Act.put,zA,zB,zC,zD,zE,zF])
  refine wpAnyD_take (i:=15) (v:=undef) rfl (by kernel_rfl) (by kernel_rfl) (by kernel_rfl) (by kernel_rfl) (fun _ _ _ h => h) (Or.inr ⟨by rfl,rfl⟩) hH1 ?_
  (try simp only [Act.put,zA,zB,zC,zD,zE,zF])
  refine wpAnyD_take (i:=16) (v:=undef) rfl (by kernel_rfl) (by kernel_rfl) (by kernel_rfl) (by kernel_rfl) (fun _ _ _ h => h) (Or.inr ⟨by rfl,rfl⟩) hH1 ?_
  (try simp only [Act.put,zA,zB,zC,zD,zE,zF])
  refine wpAnyD_take (i:=17) (v:=undef) rfl (by kernel_rfl) (by kernel_rfl) (by kernel_rfl) (by kernel_rfl) (fun _ _ _ h => h) (Or.inr ⟨by rfl,rfl⟩) hH1 ?_
  (try simp only [Act.put,zA,zB,zC,zD,zE,zF])
  refine wpAnyD_take (i:=18) (v:=undef) rfl (by kernel_rfl) (by kernel_rfl) (by kernel_rfl) (by kernel_rfl) (fun _ _ _ h => h) (Or.inr ⟨by rfl,rfl⟩) hH1 ?_
  (try simp only [Act.put,zA,zB,zC,zD,zE,zF])
  refine wpAnyD_take (i:=19) (v:=undef) rfl (by kernel_rfl) (by kernel_rfl) (by kernel_rfl) (by kernel_rfl) (fun _ _ _ h => h) (Or.inr ⟨by rfl,rfl⟩) hH1 ?_
  (try simp only [Act.put,zA,zB,zC,zD,zE,zF])
  refine wpAnyD_take (i:=20) (v:=undef) rfl (by kernel_rfl) (by kernel_rfl) (by kernel_rfl) (by kernel_rfl) (fun _ _ _ h => h) (Or.inr ⟨by rfl,rfl⟩) hH1 ?_
  (try simp only [Act.put,zA,zB,zC,zD,zE,zF])
  refine tkD (i:=21) (v:=?_) rfl hH1 ?_
  (try simp only [Act.put,zA,zB,zC,zD,zE,zF])
  refine tkD (i:=22) (v:=?_) rfl hH1 ?_
  (try simp only [Act.put,zA,zB,zC,zD,zE,zF])
  refine tkD (i:=23) (v:=?_) rfl hH1 ?_
  (try simp only [Act.put,zA,zB,zC,zD,zE,zF])
  refine tkD (i:=24) (v:=?_) rfl hH1 ?_
  (try simp only [Act.put,zA,zB,zC,zD,zE,zF])
  refine tkD (i:=25) (v:=?_) rfl hH1 ?_
  (try simp only [Act.put,zA,zB,zC,zD,zE,zF])
  refine tkD (i:=26) (v:=?_) rfl hH1 ?_
  (try simp only [Act.put,zA,zB,zC,zD,zE,zF])
  refine tkD (i:=27) (v:=?_) rfl hH1 ?_
  (try simp only [Act.put,zA,zB,zC,zD,zE,zF])
  refine tkD (i:=28) (v:=?_) rfl hH1 ?_
  (try simp only [Act.put,zA,zB,zC,zD,zE,zF])
  refine tkD (i:=29) (v:=?_) rfl hH1 ?_
  (try simp only [Act.put,zA,zB,zC,zD,zE,zF])
  refine tkD (i:=30) (v:=?_) rfl hH1 ?_
  (try simp only [Act.put,zA,zB,zC,zD,zE,zF])
  refine wpAnyD_step (i:=31) (by kernel_rfl) rfl (fun K hK9 => ?_)
  go_simp
  go_wp2_with fail
  refine (KSg.out (by first | trivial | rfl) _ (kw.trans hH1.1)).mono ?_
  rintro e u4 ⟨rfl,k4⟩
  refine hK9.out _ _ (HS.out _ (hH1.1.trans k4)) (fun hH4 => ?_)
  clear hK9 K
  (try simp only [Act.put,zA,zB,zC,zD,zE,zF])
  refine tkD (i:=32) (v:=?_) rfl hH4 ?_
  (try simp only [Act.put,zA,zB,zC,zD,zE,zF])
  refine tkD (i:=33) (v:=?_) rfl hH4 ?_
  (try simp only [Act.put,zA,zB,zC,zD,zE,zF])
  refine tkD (i:=34) (v:=?_) rfl hH4 ?_
  (try simp only [Act.put,zA,zB,zC,zD,zE,zF])
  refine tkD (i:=35) (v:=?_) rfl hH4 ?_
  (try simp only [Act.put,zA,zB,zC,zD,zE,zF])
  refine wpAnyD_done (by kernel_rfl) ?_ _
  (try simp only [Act.put,zA,zB,zC,zD,zE,zF])
  go_wp2_with fail
  go_ret
  exact ⟨rfl,kw.trans hH4.1⟩
 ·skip
  refine wp_region_late [] (fun u => Kept w9 u ∧ u.cell? ⟨B0,0,none⟩ = some (.int .i64 lo) ∧ u.cell? ⟨B0,1,none⟩ = some (.int .i64 hi) ∧ u.cell? ⟨B1,0,none⟩ = some (.bool xn) ∧ u.cell? ⟨B1,1,none⟩ = some (.slice ao xl xc) ∧ u.cell? ⟨B1,2,none⟩ = some (.int .i64 xx)) (by kernel_rfl) (HS.out _ (Kept.refl w9).drew) (fun hHeld => ?_)
  refine tkD (i:=0) (v:=?_) rfl hHeld ?_
  (try simp only [Act.put,zA,zB,zC,zD,zE,zF])
  refine tkD (i:=1) (v:=?_) rfl hHeld ?_
  (try simp only [Act.put,zA,zB,zC,zD,zE,zF])
  refine tkD (i:=2) (v:=?_) rfl hHeld ?_
  (try simp only [Act.put,zA,zB,zC,zD,zE,zF])
  refine tkD (i:=3) (v:=?_) rfl hHeld ?_
  (try simp only [Act.put,zA,zB,zC,zD,zE,zF])
  refine wpAnyD_take (i:=4) (v:=undef) rfl (by kernel_rfl) (by kernel_rfl) (by kernel_rfl) (by kernel_rfl) (fun _ _ _ h => h) (Or.inr ⟨by rfl,rfl⟩) hHeld ?_
  (try simp only [Act.put,zA,zB,zC,zD,zE,zF])
  refine wpAnyD_take (i:=5) (v:=undef) rfl (by kernel_rfl) (by kernel_rfl) (by kernel_rfl) (by kernel_rfl) (fun _ _ _ h => h) (Or.inr ⟨by rfl,rfl⟩) hHeld ?_
  (try simp only [Act.put,zA,zB,zC,zD,zE,zF])
  refine wpAnyD_take (i:=6) (v:=undef) rfl (by kernel_rfl) (by kernel_rfl) (by kernel_rfl) (by kernel_rfl) (fun _ _ _ h => h) (Or.inr ⟨by rfl,rfl⟩) hHeld ?_
  (try simp only [Act.put,zA,zB,zC,zD,zE,zF])
  refine wpAnyD_take (i:=7) (v:=undef) rfl (by kernel_rfl) (by kernel_rfl) (by kernel_rfl) (by kernel_rfl) (fun _ _ _ h => h) (Or.inr ⟨by rfl,rfl⟩) hHeld ?_
  (try simp only [Act.put,zA,zB,zC,zD,zE,zF])
  refine tkD (i:=8) (v:=?_) rfl hHeld ?_
  (try simp only [Act.put,zA,zB,zC,zD,zE,zF])
  refine tkD (i:=9) (v:=?_) rfl hHeld ?_
  (try simp only [Act.put,zA,zB,zC,zD,zE,zF])
  refine tkD (i:=10) (v:=?_) rfl hHeld ?_
  (try simp only [Act.put,zA,zB,zC,zD,zE,zF])
  refine tkD (i:=11) (v:=?_) rfl hHeld ?_
  (try simp only [Act.put,zA,zB,zC,zD,zE,zF])
  refine tkD (i:=12) (v:=?_) rfl hHeld ?_
  (try simp only [Act.put,zA,zB,zC,zD,zE,zF])
  refine tkD (i:=13) (v:=?_) rfl hHeld ?_
  (try simp only [Act.put,zA,zB,zC,zD,zE,zF])
  refine tkD (i:=14) (v:=?_) rfl hHeld ?_
  (try simp only [Act.put,zA,zB,zC,zD,zE,zF])
  refine wpAnyD_take (i:=15) (v:=undef) rfl (by kernel_rfl) (by kernel_rfl) (by kernel_rfl) (by kernel_rfl) (fun _ _ _ h => h) (Or.inr ⟨by rfl,rfl⟩) hHeld ?_
  (try simp only [Act.put,zA,zB,zC,zD,zE,zF])
  refine wpAnyD_take (i:=16) (v:=undef) rfl (by kernel_rfl) (by kernel_rfl) (by kernel_rfl) (by kernel_rfl) (fun _ _ _ h => h) (Or.inr ⟨by rfl,rfl⟩) hHeld ?_
  (try simp only [Act.put,zA,zB,zC,zD,zE,zF])
  refine wpAnyD_take (i:=17) (v:=undef) rfl (by kernel_rfl) (by kernel_rfl) (by kernel_rfl) (by kernel_rfl) (fun _ _ _ h => h) (Or.inr ⟨by rfl,rfl⟩) hHeld ?_
  (try simp only [Act.put,zA,zB,zC,zD,zE,zF])
  refine wpAnyD_take (i:=18) (v:=undef) rfl (by kernel_rfl) (by kernel_rfl) (by kernel_rfl) (by kernel_rfl) (fun _ _ _ h => h) (Or.inr ⟨by rfl,rfl⟩) hHeld ?_
  (try simp only [Act.put,zA,zB,zC,zD,zE,zF])
  refine wpAnyD_take (i:=19) (v:=undef) rfl (by kernel_rfl) (by kernel_rfl) (by kernel_rfl) (by kernel_rfl) (fun _ _ _ h => h) (Or.inr ⟨by rfl,rfl⟩) hHeld ?_
  (try simp only [Act.put,zA,zB,zC,zD,zE,zF])
  refine wpAnyD_take (i:=20) (v:=undef) rfl (by kernel_rfl) (by kernel_rfl) (by kernel_rfl) (by kernel_rfl) (fun _ _ _ h => h) (Or.inr ⟨by rfl,rfl⟩) hHeld ?_
  (try simp only [Act.put,zA,zB,zC,zD,zE,zF])
  refine tkD (i:=21) (v:=?_) rfl hHeld ?_
  (try simp only [Act.put,zA,zB,zC,zD,zE,zF])
  refine tkD (i:=22) (v:=?_) rfl hHeld ?_
  (try simp only [Act.put,zA,zB,zC,zD,zE,zF])
  refine tkD (i:=23) (v:=?_) rfl hHeld ?_
  (try simp only [Act.put,zA,zB,zC,zD,zE,zF])
  refine tkD (i:=24) (v:=?_) rfl hHeld ?_
  (try simp only [Act.put,zA,zB,zC,zD,zE,zF])
  refine tkD (i:=25) (v:=?_) rfl hHeld ?_
  (try simp only [Act.put,zA,zB,zC,zD,zE,zF])
  refine tkD (i:=26) (v:=?_) rfl hHeld ?_
  (try simp only [Act.put,zA,zB,zC,zD,zE,zF])
  refine tkD (i:=27) (v:=?_) rfl hHeld ?_
  (try simp only [Act.put,zA,zB,zC,zD,zE,zF])
  refine tkD (i:=28) (v:=?_) rfl hHeld ?_
  (try simp only [Act.put,zA,zB,zC,zD,zE,zF])
  refine tkD (i:=29) (v:=?_) rfl hHeld ?_
  (try simp only [Act.put,zA,zB,zC,zD,zE,zF])
  refine tkD (i:=30) (v:=?_) rfl hHeld ?_
  (try simp only [Act.put,zA,zB,zC,zD,zE,zF])
  refine wpAnyD_step (i:=31) (by kernel_rfl) rfl (fun K hK9 => ?_)
  go_simp
  go_wp2_with fail
  refine (KSg.out (by first | trivial | rfl) _ (kw.trans hHeld.1)).mono ?_
  rintro e u4 ⟨rfl,k4⟩
  refine hK9.out _ _ (HS.out _ (hHeld.1.trans k4)) (fun hH4 => ?_)
  clear hK9 K
  (try simp only [Act.put,zA,zB,zC,zD,zE,zF])
  refine tkD (i:=32) (v:=?_) rfl hH4 ?_
  (try simp only [Act.put,zA,zB,zC,zD,zE,zF])
  refine tkD (i:=33) (v:=?_) rfl hH4 ?_
  (try simp only [Act.put,zA,zB,zC,zD,zE,zF])
  refine tkD (i:=34) (v:=?_) rfl hH4 ?_
  (try simp only [Act.put,zA,zB,zC,zD,zE,zF])
  refine tkD (i:=35) (v:=?_) rfl hH4 ?_
  (try simp only [Act.put,zA,zB,zC,zD,zE,zF])
  refine wpAnyD_done (by kernel_rfl) ?_ _
  (try simp only [Act.put,zA,zB,zC,zD,zE,zF])
  go_wp2_with fail
  go_ret
  exact ⟨rfl,kw.trans hH4.1⟩
end Go.Proofs.YtdhimkpfnhoagaaGreatDoor
