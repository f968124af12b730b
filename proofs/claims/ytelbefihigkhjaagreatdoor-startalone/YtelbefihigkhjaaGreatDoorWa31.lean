/- Package tensor: a matrix of noughts. The walk of numbers of package bits,called with two patterns. The walks of place,Order,Min,Max of package bits,and of cmp.Compare at int. -/
import Derived.Test.YtelbefihigkhjaaGreatDoorWa15
import Derived.Test.YtelbefihigkhjaaGreatDoorWa30
import Derived.Laws.MakeOwn
import Derived.Test.YtelbefihigkhjaaGreatDoorWa03
namespace Go.Proofs.YtelbefihigkhjaaGreatDoor
open Go.ChangeShapes Go.WideShapes Go.ChangeAt Go.RowKit
set_option maxHeartbeats 16000000
set_option maxRecDepth 100000
set_option linter.unusedVariables false
set_option linter.unusedSimpArgs false
theorem mk0_run (l n : Nat) (hl : l ≤ n) (hn : n < 100000000) (w : World) : (Instr.makeSlice 26 (.int .i64 (l : Int)) (.int .i64 (n : Int))).run Tryz.prog w = .ok (.slice (some ⟨w.heap.size,0,none⟩) l n) (w.alloc (.cells (madeCells #[.int .i64 0] n) 3)):=by
 obtain ⟨i,hi,hz,hs,hby⟩:=info_parts (int_info)
 have:=run_make (P:=Tryz.prog) w 26 3 i (.int .i64 0) li_under hi hz .i64 .i64 (l : Int) (n : Int) (by omega) (by omega) (by rw [hby]; omega) (by omega)
 rw [hs,Int.toNat_natCast,Int.toNat_natCast,Nat.mul_one] at this
 exact this
theorem own0_made (l n : Nat) (hl : l ≤ n) (hn : n < 100000000) (w : World) : Own (w.alloc (.cells (madeCells #[.int .i64 0] n) 3)) w.heap.size n (List.replicate l 0):=by
 refine ⟨_,heap_alloc_new w _,by simpa using hl,by simp [maxLen]; omega,by simp [size_madeCells],?_⟩
 rw [List.length_replicate,toList_madeCells_one]
 simp [List.take_replicate,Nat.min_eq_left hl]
theorem conv0_64 (w : World) : Calls Tryz.prog 153 #[.int .i64 0,.int .i64 64,.int .i64 64] w fun e w' => e = .returned (.int .i64 0) ∧ Kept w w':=by
 have KL : Hid (∀ u,Calls Tryz.prog 161 #[.int .i64 64] u fun e w' => e = .returned (.tuple #[.agg #[.int .i64 (-9223372036854775808),.int .i64 9218868437227405312,.int .i64 9221120237041090561,.int .i64 52,.int .i64 (-1074)],.bool true]) ∧ Kept u w'):=fun u => layoutOf_64 u
 have KW : Hid (∀ u,Calls Tryz.prog 163 #[.int .i64 0,.int .i64 64] u fun e w' => e = .returned (.float .f64 0) ∧ u = w'):=fun u => widened_64 0 u
 have KO : Hid (∀ u,Calls Tryz.prog 150 #[.float .f64 0] u fun e w' => e = .returned (.int .i64 0) ∧ u = w'):=fun u => by
  have:=of64_any 0 u
  rw [show of64 0 = 0 by decide +kernel] at this
  exact this
 go_enter Tryz.func153,Tryz.ntmps153
 go_wp2_with (first | (go_at_call 161; refine (KL.out _).mono ?_; rintro e w1 ⟨rfl,k1⟩) | (go_at_call 163; refine (KW.out _).mono ?_; rintro e w2 ⟨rfl,rfl⟩) | (go_at_call 150; refine (KO.out _).mono ?_; rintro e w3 ⟨rfl,rfl⟩))
 go_ret
 exact ⟨rfl,k1.alloc _ _⟩
theorem conv0_32 (w : World) : Calls Tryz.prog 153 #[.int .i64 0,.int .i64 32,.int .i64 32] w fun e w' => e = .returned (.int .i64 0) ∧ Kept w w':=by
 have KL : Hid (∀ u,Calls Tryz.prog 161 #[.int .i64 32] u fun e w' => e = .returned (.tuple #[.agg #[.int .i64 2147483648,.int .i64 2139095040,.int .i64 2143289345,.int .i64 23,.int .i64 (-149)],.bool true]) ∧ Kept u w'):=fun u => layoutOf_32 u
 have hw0 : wide 0 = 0:=by decide +kernel
 have KW : Hid (∀ u,Calls Tryz.prog 163 #[.int .i64 0,.int .i64 32] u fun e w' => e = .returned (.float .f64 0) ∧ u = w'):=fun u => by
  have:=widened_32_num 0 (by decide +kernel) u
  rw [hw0] at this
  exact this
 have hcv : ∀ wx : World,(convert 190 186 (.float .f64 0)).run Tryz.prog wx = .ok (.float .f32 0) wx:=fun wx => run_convert_float_float wx 190 186 .f64 .f32 0 0 (by kernel_rfl) (by kernel_rfl) (by decide +kernel)
 have KO : Hid (∀ u,Calls Tryz.prog 147 #[.float .f32 0] u fun e w' => e = .returned (.int .i64 0) ∧ u = w'):=fun u => by
  have:=of32_any 0 u
  rw [show of32 0 = 0 by decide +kernel] at this
  exact this
 go_enter Tryz.func153,Tryz.ntmps153
 go_wp2_with (first | (go_at_call 161; refine (KL.out _).mono ?_; rintro e w1 ⟨rfl,k1⟩) | (go_at_call 163; refine (KW.out _).mono ?_; rintro e w2 ⟨rfl,rfl⟩) | (go_at_call 147; refine (KO.out _).mono ?_; rintro e w3 ⟨rfl,rfl⟩))
 go_ret
 exact ⟨rfl,k1.alloc _ _⟩
theorem told0 (n : Int) (hn : n = 64 ∨ n = 32) (w : World) : Calls Tryz.prog 180 #[.int .i64 0,.int .i64 n] w fun e w' => e = .returned (.int .i64 0) ∧ Kept w w':=by
 have KC : Hid (∀ u,Calls Tryz.prog 153 #[.int .i64 0,.int .i64 n,.int .i64 n] u fun e w' => e = .returned (.int .i64 0) ∧ Kept u w'):=fun u => by
  rcases hn with rfl | rfl
  ·exact conv0_64 u
  ·exact conv0_32 u
 clear hn
 go_enter Tryz.func180,Tryz.ntmps180
 go_wp2_with (first | (go_at_call 153; refine (KC.out _).mono ?_; rintro e w1 ⟨rfl,k1⟩))
 go_ret
 exact ⟨rfl,k1⟩
theorem Q4.set4 {w : World} {b : Nat} {v0 v1 v2 v3 : Value} (h : Q4 w b v0 v1 v2 v3) (u0 u1 u2 u3 : Value) : Q4 ((((w.setCell ⟨b,0,none⟩ u0).setCell ⟨b,1,none⟩ u1).setCell ⟨b,2,none⟩ u2).setCell ⟨b,3,none⟩ u3) b u0 u1 u2 u3:=by
 obtain ⟨c0,c1,c2,c3,f⟩:=h
 exact ⟨by simp [go_sem,c0,c1,c2,c3],by simp [go_sem,c0,c1,c2,c3],by simp [go_sem,c0,c1,c2,c3],by simp [go_sem,c0,c1,c2,c3],fun o => by simp [World.frozen?_setCell,f]⟩
theorem Q4.alloc {w : World} {b : Nat} {v0 v1 v2 v3 : Value} (h : Q4 w b v0 v1 v2 v3) (c : Array Value) (t : TypeId) : Q4 (w.alloc (.cells c t)) b v0 v1 v2 v3:=h.kept ((Kept.refl w).alloc c t)
theorem matrix0 (r c n : Int) (hn : n = 64 ∨ n = 32) (K g cap : Nat) (hK : K ≤ 100000) (w : World) (hO : Own w g cap (List.replicate K 0)) : Calls Tryz.prog 98 #[.agg #[.int .i64 r,.int .i64 c,.int .i64 n],.slice (some ⟨g,0,none⟩) K cap] w fun e w' => e = .returned (.agg #[.int .i64 r,.int .i64 c,.int .i64 n,.slice (some ⟨g,0,none⟩) K cap]) ∧ Own w' g cap (List.replicate K 0) ∧ Gs [g] w w':=by
 have KT : Hid (∀ u,Calls Tryz.prog 180 #[.int .i64 0,.int .i64 n] u fun e w' => e = .returned (.int .i64 0) ∧ Kept u w'):=fun u => told0 n hn u
 have hg:=hO.lt
 obtain ⟨X,hX⟩ : ∃ X,X = (w.alloc (.cells #[.int .i64 r,.int .i64 c,.int .i64 n] 76)).alloc (.cells #[.int .i64 0,.int .i64 0,.int .i64 0,.slice none 0 0] 28):=⟨_,rfl⟩
 obtain ⟨B0,hB0⟩ : ∃ B,B = w.heap.size:=⟨_,rfl⟩
 obtain ⟨B1,hB1⟩ : ∃ B,B = B0 + 1:=⟨_,rfl⟩
 have hKX : Kept w X:=by rw [hX]; exact ((Kept.refl w).alloc _ _).alloc _ _
 have hP0 : N3 X B0 (.int .i64 r) (.int .i64 c) (.int .i64 n):=by rw [hX,hB0]; exact (N3.new w _ _ _ _).alloc _ _
 have hP1 : Q4 X B1 (.int .i64 0) (.int .i64 0) (.int .i64 0) (.slice none 0 0):=by
  rw [hX,hB1,hB0]
  have:=Q4.new (w.alloc (.cells #[.int .i64 r,.int .i64 c,.int .i64 n] 76)) (.int .i64 0) (.int .i64 0) (.int .i64 0) (.slice none 0 0) 28
  simpa using this
 have n0 : Hid (B0 ∉ [g] ∧ B1 ∉ [g] ∧ w.heap.size ≤ B0 ∧ w.heap.size ≤ B1 ∧ g ≠ B1 ∧ B1 ≠ g):=(show _ ∧ _ ∧ _ ∧ _ ∧ _ ∧ _ from ⟨by simp; omega,by simp; omega,by omega,by omega,by omega,by omega⟩)
 have hOX:=hO.kept hKX
 clear hO hg hn
 go_enter Tryz.func98,Tryz.ntmps98
 go_upto_region 1 with fail
 rw [← hX,← hB0,← hB1]
 clear hX hB0 hB1
 go_wp2_with fail
 go_loopw [9] (fun i wr => ∃ k : Nat,k ≤ K ∧ i = .int .i64 k ∧ Gs [g] X wr ∧ Own wr g cap (List.replicate K 0)) (fun i _ => K - (intOf i).toNat)
 case atStart => exact ⟨0,Nat.zero_le _,rfl,Gs.refl _ X,hOX⟩
 case round =>
  clear hOX
  obtain ⟨k,hk,rfl,hG,hO⟩:=hrel
  have hPr:=hP0.gs hG n0.out.1
  by_cases hkK : k < K
  ·have cg:=hO.cell k (by simpa using hkK)
   have e0 : (List.replicate K (0 : Int)).getD k 0 = 0:=by simp [List.getD_eq_getElem?_getD,hkK]
   rw [e0] at cg
   obtain ⟨p0,p1,p2,pf⟩:=hPr
   have HO : Hid (∀ u,Kept wr u → Own u g cap (List.replicate K 0)):=fun u q => hO.kept q
   clear hO e0
   go_wp2_with (first | (go_at_call 180; refine (KT.out _).mono ?_; rintro e w1 ⟨rfl,k1⟩; have o1:=HO.out _ k1; have c1:=o1.cell k (by simpa using hkK); have f1:=o1.free k; have o2:=o1.set k 0))
   go_roundw
   case rel =>
    have e1 : (List.replicate K (0 : Int)).set k 0 = List.replicate K 0:=by
     apply List.ext_getElem
     ·simp
     ·intro j h1 h2
      simp [List.getElem_set]
    rw [e1] at o2
    exact ⟨k + 1,by omega,by go_num,(hG.kept k1).setCell (.inl (by simp)) _,o2⟩
   case measure => simp [intOf]; omega
  ·have hkK2 : k = K:=by omega
   subst hkK2
   obtain ⟨p0,p1,p2,pf⟩:=hPr
   have hQ:=hP1.gs hG n0.out.2.1
   have hQ2:=hQ.set4 (.int .i64 r) (.int .i64 c) (.int .i64 n) (.slice (some ⟨g,0,none⟩) k cap)
   obtain ⟨q0,q1,q2,q3,qf⟩:=hQ
   obtain ⟨s0,s1,s2,s3,sf⟩:=hQ2
   obtain ⟨-,-,-,o1,ng,-⟩:=n0.out
   go_wp2_with fail
   exact bodyPost_ret (v:=.agg #[.int .i64 r,.int .i64 c,.int .i64 n,.slice (some ⟨g,0,none⟩) k cap]) (by simp [results,Tryz.results98,go_sem,s0,s1,s2,s3]) rfl ⟨rfl,(((hO.setOther ng _).setOther ng _).setOther ng _).setOther ng _,(((((hKX.gs _).trans hG).setCell (.inr o1) _).setCell (.inr o1) _).setCell (.inr o1) _).setCell (.inr o1) _⟩
theorem zero_no (r c n q : Int) (h : ckS r c n = q) (hq : (q != 0) = true) (w : World) : Calls Tryz.prog 26 #[.int .i64 r,.int .i64 c,.int .i64 n] w fun e w' => e = .returned (.tuple #[.agg #[.int .i64 0,.int .i64 0,.int .i64 0,.slice none 0 0],.int .i64 q]) ∧ Kept w w':=by
 obtain ⟨X,hX⟩ : ∃ X,X = (w.alloc (.cells #[.int .i64 0,.int .i64 0,.int .i64 0,.slice none 0 0] 28)).alloc (.cells #[.int .i64 r,.int .i64 c,.int .i64 n] 76):=⟨_,rfl⟩
 obtain ⟨B0,hB0⟩ : ∃ B,B = w.heap.size:=⟨_,rfl⟩
 obtain ⟨B1,hB1⟩ : ∃ B,B = B0 + 1:=⟨_,rfl⟩
 have hK : Kept w X:=by rw [hX]; exact ((Kept.refl w).alloc _ _).alloc _ _
 have hP0 : Q4 X B0 (.int .i64 0) (.int .i64 0) (.int .i64 0) (.slice none 0 0):=by rw [hX,hB0]; exact (Q4.new w _ _ _ _ _).alloc _ _
 have hP1 : N3 X B1 (.int .i64 r) (.int .i64 c) (.int .i64 n):=by
  rw [hX,hB1,hB0]
  have:=N3.new (w.alloc (.cells #[.int .i64 0,.int .i64 0,.int .i64 0,.slice none 0 0] 28)) (.int .i64 r) (.int .i64 c) (.int .i64 n) 76
  simpa using this
 have oB : Hid (w.heap.size ≤ B0 ∧ B0 < X.heap.size ∧ w.heap.size ≤ B1 ∧ B1 < X.heap.size):=(show _ ∧ _ ∧ _ ∧ _ from by have h1:=hP0.lt; have h2:=hP1.lt; omega)
 have KC : Hid (∀ u,Calls Tryz.prog 97 #[.agg #[.int .i64 r,.int .i64 c,.int .i64 n]] u fun e w' => e = .returned (.int .i64 q) ∧ Kept u w'):=fun u => by
  have:=checkShape_any r c n u
  rw [h] at this
  exact this
 go_enter Tryz.func26,Tryz.ntmps26
 go_upto_region 2 with fail
 rw [← hX,← hB0,← hB1]
 clear hX hB0 hB1
 have hP1':=hP1
 obtain ⟨s0,s1,s2,sf⟩:=hP1'
 go_wp2_with (first | (go_at_call 97; refine (KC.out _).mono ?_; rintro e w1 ⟨rfl,k1⟩; have hr1:=hP0.kept k1; have hr2:=hr1.set4 (.int .i64 0) (.int .i64 0) (.int .i64 0) (.slice none 0 0); obtain ⟨p0,p1,p2,p3,pf⟩:=hr1; obtain ⟨d0,d1,d2,d3,df⟩:=hr2))
 exact bodyPost_ret (v:=.tuple #[.agg #[.int .i64 0,.int .i64 0,.int .i64 0,.slice none 0 0],.int .i64 q]) (by simp [results,Tryz.results26,go_sem,d0,d1,d2,d3]) rfl ⟨rfl,((((hK.trans k1).setCell oB.out.1 _).setCell oB.out.1 _).setCell oB.out.1 _).setCell oB.out.1 _⟩
theorem zero_yes (r c n : Int) (hn : n = 64 ∨ n = 32) (h : ckS r c n = 0) (K : Nat) (hw : IntKind.i64.wrap (r * c) = (K : Int)) (hK4 : K ≤ 4096) (w : World) : Calls Tryz.prog 26 #[.int .i64 r,.int .i64 c,.int .i64 n] w fun e w' => ∃ g,e = .returned (.tuple #[.agg #[.int .i64 r,.int .i64 c,.int .i64 n,.slice (some ⟨g,0,none⟩) K K],.int .i64 0]) ∧ w.heap.size ≤ g ∧ Own w' g K (List.replicate K 0) ∧ Kept w w':=by
 obtain ⟨X,hX⟩ : ∃ X,X = (w.alloc (.cells #[.int .i64 0,.int .i64 0,.int .i64 0,.slice none 0 0] 28)).alloc (.cells #[.int .i64 r,.int .i64 c,.int .i64 n] 76):=⟨_,rfl⟩
 obtain ⟨B0,hB0⟩ : ∃ B,B = w.heap.size:=⟨_,rfl⟩
 obtain ⟨B1,hB1⟩ : ∃ B,B = B0 + 1:=⟨_,rfl⟩
 have hK : Kept w X:=by rw [hX]; exact ((Kept.refl w).alloc _ _).alloc _ _
 have hP0 : Q4 X B0 (.int .i64 0) (.int .i64 0) (.int .i64 0) (.slice none 0 0):=by rw [hX,hB0]; exact (Q4.new w _ _ _ _ _).alloc _ _
 have hP1 : N3 X B1 (.int .i64 r) (.int .i64 c) (.int .i64 n):=by
  rw [hX,hB1,hB0]
  have:=N3.new (w.alloc (.cells #[.int .i64 0,.int .i64 0,.int .i64 0,.slice none 0 0] 28)) (.int .i64 r) (.int .i64 c) (.int .i64 n) 76
  simpa using this
 have oB : Hid (w.heap.size ≤ B0 ∧ B0 < X.heap.size ∧ w.heap.size ≤ B1 ∧ B1 < X.heap.size):=(show _ ∧ _ ∧ _ ∧ _ from by have h1:=hP0.lt; have h2:=hP1.lt; omega)
 have KC : Hid (∀ u,Calls Tryz.prog 97 #[.agg #[.int .i64 r,.int .i64 c,.int .i64 n]] u fun e w' => e = .returned (.int .i64 0) ∧ Kept u w'):=fun u => by
  have:=checkShape_any r c n u
  rw [h] at this
  exact this
 have hmk : ∀ u : World,(Instr.makeSlice 26 (.int .i64 (K : Int)) (.int .i64 (K : Int))).run Tryz.prog u = .ok (.slice (some ⟨u.heap.size,0,none⟩) K K) (u.alloc (.cells (madeCells #[.int .i64 0] K) 3)):=fun u => mk0_run _ _ (Nat.le_refl _) (by omega) u
 have KM : Hid (∀ u g,Own u g K (List.replicate K 0) → Calls Tryz.prog 98 #[.agg #[.int .i64 r,.int .i64 c,.int .i64 n],.slice (some ⟨g,0,none⟩) K K] u fun e w' => e = .returned (.agg #[.int .i64 r,.int .i64 c,.int .i64 n,.slice (some ⟨g,0,none⟩) K K]) ∧ Own w' g K (List.replicate K 0) ∧ Gs [g] u w'):=fun u g ho => matrix0 r c n hn K g K (by omega) u ho
 have HOm : Hid (∀ u : World,Own (u.alloc (.cells (madeCells #[.int .i64 0] K) 3)) u.heap.size K (List.replicate K 0)):=fun u => own0_made _ _ (Nat.le_refl _) (by omega) u
 clear h hn hK4
 go_enter Tryz.func26,Tryz.ntmps26
 go_upto_region 2 with fail
 rw [← hX,← hB0,← hB1]
 clear hX hB0 hB1
 have hP1':=hP1
 obtain ⟨s0,s1,s2,sf⟩:=hP1'
 go_wp2_with (first | (go_at_call 97; refine (KC.out _).mono ?_; rintro e w1 ⟨rfl,k1⟩))
 clear s0 s1 s2 sf
 have HS : Hid (∀ u,Kept w1 u → Kept w1 u ∧ u.cell? ⟨B1,0,none⟩ = some (.int .i64 r) ∧ u.cell? ⟨B1,1,none⟩ = some (.int .i64 c) ∧ u.cell? ⟨B1,2,none⟩ = some (.int .i64 n)):=fun u q => ⟨q,((hP1.kept k1).kept q).c0,((hP1.kept k1).kept q).c1,((hP1.kept k1).kept q).c2⟩
 have HR : Hid (∀ u,Kept w1 u → Q4 u B0 (.int .i64 0) (.int .i64 0) (.int .i64 0) (.slice none 0 0)):=fun u q => (hP0.kept k1).kept q
 refine wp_region_late [6,7] (fun u => Kept w1 u ∧ u.cell? ⟨B1,0,none⟩ = some (.int .i64 r) ∧ u.cell? ⟨B1,1,none⟩ = some (.int .i64 c) ∧ u.cell? ⟨B1,2,none⟩ = some (.int .i64 n)) (by kernel_rfl) (HS.out _ (Kept.refl w1).drew) (fun hHeld => ?_)
 refine tkD (i:=0) (v:=?_) rfl hHeld ?_
 (try simp only [Act.put,zA,zB,zC,zD,zE,zF])
 refine tkD (i:=1) (v:=?_) rfl hHeld ?_
 (try simp only [Act.put,zA,zB,zC,zD,zE,zF])
 refine tkD (i:=2) (v:=?_) rfl hHeld ?_
 (try simp only [Act.put,zA,zB,zC,zD,zE,zF])
 refine tkD (i:=3) (v:=?_) rfl hHeld ?_
 (try simp only [Act.put,zA,zB,zC,zD,zE,zF])
 refine wpAnyD_step (i:=4) (by kernel_rfl) rfl (fun K0 hK9 => ?_)
 go_simp
 have o4:=(HOm.out w1).kept (Kept.refl _).drew
 have k4 : Kept w1 (w1.alloc (.cells (madeCells #[.int .i64 0] K) 3)).drew:=((Kept.refl w1).alloc _ _).drew
 obtain ⟨g,hg⟩ : ∃ g,g = w1.heap.size:=⟨_,rfl⟩
 rw [← hg] at o4 ⊢
 have hgl : Hid (w1.heap.size ≤ g):=Nat.le_of_eq hg.symm
 clear hg
 generalize (w1.alloc (.cells (madeCells #[.int .i64 0] K) 3)).drew = V at *
 refine hK9.out _ _ (HS.out _ k4) (fun hH0 => ?_)
 clear hK9 K0
 (try simp only [Act.put,zA,zB,zC,zD,zE,zF])
 refine wpAnyD_step (i:=5) (by kernel_rfl) rfl (fun K hK9 => ?_)
 go_simp
 go_wp2_with fail
 refine (KM.out _ _ o4).mono ?_
 rintro e u5 ⟨rfl,o5,g5⟩
 refine hK9.out _ _ (HS.out _ (k4.gsn (by intro i hi; have:=hgl.out; simp at hi; omega) g5)) (fun hH5 => ?_)
 clear hK9 K
 (try simp only [Act.put,zA,zB,zC,zD,zE,zF])
 have hr1:=HR.out _ hH5.1
 have hr2:=hr1.set4 (.int .i64 r) (.int .i64 c) (.int .i64 n) (.slice (some ⟨g,0,none⟩) K K)
 obtain ⟨p0,p1,p2,p3,pf⟩:=hr1
 obtain ⟨d0,d1,d2,d3,df⟩:=hr2
 have ng : g ≠ B0:=by have:=oB.out; have:=k1.below.size; have:=hgl.out; omega
 have hsz : w.heap.size ≤ g:=by have:=(hK.trans k1).below.size; have:=hgl.out; omega
 refine wpAnyD_late (i:=6) (by kernel_rfl) rfl rfl (fun K hK9 => ?_)
 go_simp
 refine hK9.out _ _ ?_
 clear hK9 K
 (try simp only [Act.put,zA,zB,zC,zD,zE,zF])
 refine wpAnyD_late (i:=7) (by kernel_rfl) rfl rfl (fun K0 hK9 => ?_)
 go_simp
 refine hK9.out _ _ ?_
 clear hK9 K0
 (try simp only [Act.put,zA,zB,zC,zD,zE,zF])
 refine wpAnyD_done (by kernel_rfl) ?_ _
 (try simp only [Act.put,zA,zB,zC,zD,zE,zF])
 go_wp2_with fail
 exact bodyPost_ret (v:=.tuple #[.agg #[.int .i64 r,.int .i64 c,.int .i64 n,.slice (some ⟨g,0,none⟩) K K],.int .i64 0]) (by simp [results,Tryz.results26,go_sem,d0,d1,d2,d3]) rfl ⟨g,rfl,hsz,(((o5.setOther ng _).setOther ng _).setOther ng _).setOther ng _,((((hK.trans (k1.trans hH5.1)).setCell oB.out.1 _).setCell oB.out.1 _).setCell oB.out.1 _).setCell oB.out.1 _⟩
end Go.Proofs.YtelbefihigkhjaaGreatDoor

namespace Go.Proofs.YtelbefihigkhjaaGreatDoor
open Go.ChangeShapes Go.WideShapes Go.ChangeAt Go.RowKit
set_option maxHeartbeats 16000000
set_option maxRecDepth 100000
set_option linter.unusedVariables false
end Go.Proofs.YtelbefihigkhjaaGreatDoor

namespace Go.Proofs.YtelbefihigkhjaaGreatDoor
open Go.ChangeShapes Go.WideShapes Go.ChangeAt Go.RowKit
set_option maxHeartbeats 16000000
set_option maxRecDepth 100000
set_option linter.unusedVariables false
set_option linter.unusedSimpArgs false
end Go.Proofs.YtelbefihigkhjaaGreatDoor
