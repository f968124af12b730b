/- Package start: Make of any Init. The laws of chapter 16: light,SameMatrix. The laws of chapter 16: alive. -/
import Derived.Test.YtelbefihigkhjaaGreatDoorWa38
import Derived.Test.YtelbefihigkhjaaGreatDoorWa45
import Derived.Test.YtelbefihigkhjaaGreatDoorWa33
namespace Go.Proofs.YtelbefihigkhjaaGreatDoor
open Go.ChangeShapes Go.WideShapes Go.ChangeAt Go.RowKit
set_option maxHeartbeats 16000000
set_option maxRecDepth 100000
set_option linter.unusedVariables false
set_option linter.unusedSimpArgs false
theorem nz_vld (s Z : Int) : vld (nz s Z) = true:=by
 unfold nz
 cases h : cfm Z s with
 | none => rfl
 | some x => exact (frm_vld _ _ _ _ h).1
/-- what Make tells: a matrix with elements of its own,or none -/
def MkA (q rows cols wd : Int) (N : Nat) (L : List Int) (w : World) (e : Ending) (w' : World) : Prop:=Kept w w' ∧ ((q = 0 ∧ ∃ g,e = .returned (.tuple #[.agg #[.int .i64 rows,.int .i64 cols,.int .i64 wd,.slice (some ⟨g,0,none⟩) N N],.int .i64 0]) ∧ w.heap.size ≤ g ∧ Own w' g N L) ∨ ((q == 0) = false ∧ e = .returned (.tuple #[zeroM,.int .i64 q])))
/-- the elements,rounded -/
def btN (wd : Int) (nu : Nat → Nm) (i : Nat) : Int:=rzN wd 0 (nu i)
/-- the fault -/
def feN (wd : Int) (nu : Nat → Nm) (N : Nat) : Int:=if fine (fun i => cls (btN wd nu i) wd) N = N then 0 else 31
abbrev initV (kd rows cols wd va vb : Int) : Value:=.agg #[.int .i64 kd,.int .i64 rows,.int .i64 cols,.int .i64 wd,.int .i64 va,.int .i64 vb]
theorem make_el (nu : Nat → Nm) (hnu : ∀ i,vld (nu i) = true) (kd rows cols wd va vb s t : Int) (N : Nat) (hk : 0 ≤ kd ∧ kd ≤ 5) (hwd : wd = 64 ∨ wd = 32) (hN : N ≤ 4096) (hN1 : 1 ≤ N)
  (KZ : ∀ u,Calls Tryz.prog 26 #[.int .i64 rows,.int .i64 cols,.int .i64 wd] u fun e w' => ∃ g,e = .returned (.tuple #[.agg #[.int .i64 rows,.int .i64 cols,.int .i64 wd,.slice (some ⟨g,0,none⟩) N N],.int .i64 0]) ∧ u.heap.size ≤ g ∧ Own w' g N (List.replicate N 0) ∧ Kept u w')
  (KN : ∀ u,Calls Tryz.prog 27 #[initV kd rows cols wd va vb] u fun e w' => e = .returned (.int .i64 0) ∧ Kept u w')
  (KE : ∀ u,Tab u → Calls Tryz.prog 29 #[initV kd rows cols wd va vb,.agg #[.int .i64 s,.int .i64 t,.int .i64 0]] u fun e w' => ∃ v,e = .returned v ∧ ElOK nu N u w' v ∧ Kept u w') :
  ∀ w,Tab w → Calls Tryz.prog 11 #[initV kd rows cols wd va vb,.int .i64 s,.int .i64 t] w fun e w' => MkA (feN wd nu N) rows cols wd N (stl N (btN wd nu) N) w e w':=fun w hT => by
 obtain ⟨fe,hfe⟩ : ∃ fe : Int,fe = feN wd nu N:=⟨_,rfl⟩
 have hf2 : fe = 0 ∨ fe = 31:=by rw [hfe]; unfold feN; split <;> simp
 rw [← hfe]
 unfold feN at hfe
 refine (make_elems kd rows cols wd va vb s t N fe (stl N (btN wd nu) N) (ElOK nu N) hk w KZ KN (fun u k => KE u (hT.kept k)) (fun u0 u v g k ku he ho => fill_any nu hnu rows cols wd hwd N hN hN1 (btN wd nu) (fun i => cls (btN wd nu i) wd) (fun i => rfl) (fun i => rfl) fe hfe u0 u v g (hT.kept k) ku he ho) hf2).mono ?_
 rintro e w' (⟨h0,g,he,hg,ho,k⟩ | ⟨h0,he,k⟩)
 ·exact ⟨k,.inl ⟨h0,g,he,hg,ho⟩⟩
 ·exact ⟨k,.inr ⟨by rw [h0]; rfl,by rw [h0]; exact he⟩⟩
theorem cls_top (b n : Int) : cls b n ≤ 4:=by
 unfold cls clsOf
 repeat' split
 all_goals decide
theorem ckn_ok {b : Int} {u : Bool} (h : ckn b u = 0) : cls b 64 < 3:=by
 unfold ckn at h
 have:=cls_top b 64
 split at h
 ·exact absurd h (by decide)
 ·split at h
  ·exact absurd h (by decide)
  ·split at h
   ·exact absurd h (by decide)
   ·omega
theorem make_any (kd rows cols wd va vb s t : Int) (ha : -9223372036854775808 ≤ va ∧ va ≤ 9223372036854775807) (hb : -9223372036854775808 ≤ vb ∧ vb ≤ 9223372036854775807) :
  ∃ (q : Int) (N : Nat) (L : List Int),L.length = N ∧ N ≤ 4096 ∧ ∀ w,Tab w → Calls Tryz.prog 11 #[initV kd rows cols wd va vb,.int .i64 s,.int .i64 t] w fun e w' => MkA q rows cols wd N L w e w':=by
 by_cases hk : kd < 0 ∨ 5 < kd
 ·exact ⟨42,0,[],rfl,by decide,fun w hT => (make_kind kd rows cols wd va vb s t hk w).mono fun e w' h => ⟨h.2,.inr ⟨rfl,h.1⟩⟩⟩
 have hk : 0 ≤ kd ∧ kd ≤ 5:=by omega
 by_cases hz : ckS rows cols wd = 0
 ·obtain ⟨hwd,hr,hc,hrc⟩:=ckS_ok hz
  obtain ⟨N,hN⟩ : ∃ N : Nat,N = (rows * cols).toNat:=⟨_,rfl⟩
  have h1 : 0 < rows * cols:=Int.mul_pos (by omega) (by omega)
  have hNi : (N : Int) = rows * cols:=by omega
  have hN1 : 1 ≤ N:=by omega
  have hN4 : N ≤ 4096:=by omega
  have hw : IntKind.i64.wrap (rows * cols) = (N : Int):=by rw [wrap_i64]; omega
  have KZ:=fun u => zero_yes rows cols wd hwd hz N hw hN4 u
  have KN:=fun u => checkNumbers_any kd rows cols wd va vb (by omega) ha hb u
  by_cases hn : cks kd va vb = 0
  ·rw [hn] at KN
   have ca : cls va 64 < 3:=by
    unfold cks at hn
    split at hn
    ·rename_i h; exact absurd hn h
    ·rename_i h; exact ckn_ok (by simpa using h)
   have cb : cls vb 64 < 3:=by
    unfold cks at hn
    split at hn
    ·rename_i h; exact absurd hn h
    ·split at hn
     ·rename_i h; exact absurd hn h
     ·rename_i h; exact ckn_ok (by simpa using h)
   have fin : ∀ nu : Nat → Nm,(∀ i,vld (nu i) = true) → (∀ u,Tab u → Calls Tryz.prog 29 #[initV kd rows cols wd va vb,.agg #[.int .i64 s,.int .i64 t,.int .i64 0]] u fun e w' => ∃ v,e = .returned v ∧ ElOK nu N u w' v ∧ Kept u w') → ∃ (q : Int) (N : Nat) (L : List Int),L.length = N ∧ N ≤ 4096 ∧ ∀ w,Tab w → Calls Tryz.prog 11 #[initV kd rows cols wd va vb,.int .i64 s,.int .i64 t] w fun e w' => MkA q rows cols wd N L w e w':=fun nu hnu KE => by
    exact ⟨_,N,_,stl_len N _ N,hN4,make_el nu hnu kd rows cols wd va vb s t N hk hwd hN4 hN1 KZ KN KE⟩
   have rc : rows + cols ≤ 4097:=by
    have : 0 ≤ (rows - 1) * (cols - 1):=Int.mul_nonneg (by omega) (by omega)
    rw [Int.sub_mul,Int.mul_sub] at this
    omega
   have root : ∀ fan : Int,1 ≤ fan → fan ≤ 4097 → (kd = 3 ∧ IntKind.i64.wrap (rows + cols) = fan ∨ kd = 4 ∧ rows = fan) → ∃ (q : Int) (N : Nat) (L : List Int),L.length = N ∧ N ≤ 4096 ∧ ∀ w,Tab w → Calls Tryz.prog 11 #[initV kd rows cols wd va vb,.int .i64 s,.int .i64 t] w fun e w' => MkA q rows cols wd N L w e w':=fun fan f1 f2 hf => by
    have hfan : ((fan.toNat : Nat) : Int) = fan:=by omega
    obtain ⟨L,l1,l2,KR⟩:=root6_any wd hwd fan.toNat (by omega) (by omega)
    rw [hfan] at KR
    exact fin _ (fun i => nz_vld _ _) (fun u hT => elok2 kd rows cols wd va vb s t ha ca hb cb N hN4 u hT fan L hf hwd l1 l2 KR)
   have hc6 : (kd = 0 ∨ kd = 1) ∨ kd = 2 ∨ kd = 3 ∨ kd = 4 ∨ kd = 5:=by omega
   rcases hc6 with h | h | h | h | h
   ·exact fin _ (fun i => (zf_vz va 64 (.inl rfl) ca).1.ok) (fun u hT => elok4 kd rows cols wd va vb s t ha ca hb cb N hN4 u hT h)
   ·exact fin _ (fun i => nz_vld _ _) (fun u hT => elok1 kd rows cols wd va vb s t ha ca hb cb N hN4 u hT h)
   ·exact root (rows + cols) (by omega) rc (.inl ⟨h,by rw [wrap_i64]; omega⟩)
   ·have : rows ≤ 4097:=by omega
    exact root rows hr this (.inr ⟨h,rfl⟩)
   ·exact fin _ (fun i => nz_vld _ _) (fun u hT => elok3 kd rows cols wd va vb s t ha ca hb cb N hN4 u hT h)
  ·have hq : (cks kd va vb != 0) = true:=by simpa using hn
   have hq2 : (cks kd va vb == 0) = false:=by simpa using hn
   exact ⟨cks kd va vb,0,[],rfl,by decide,fun w hT => (make_num kd rows cols wd va vb s t _ N hk hq hq2 w KZ KN).mono fun e w' h => ⟨h.2,.inr ⟨hq2,h.1⟩⟩⟩
 ·have hq : (ckS rows cols wd != 0) = true:=by simpa using hz
  have hq2 : (ckS rows cols wd == 0) = false:=by simpa using hz
  exact ⟨ckS rows cols wd,0,[],rfl,by decide,fun w hT => (make_zero kd rows cols wd va vb s t _ hk hq hq2 w (fun u => zero_no rows cols wd _ rfl hq u)).mono fun e w' h => ⟨h.2,.inr ⟨hq2,h.1⟩⟩⟩
end Go.Proofs.YtelbefihigkhjaaGreatDoor

namespace Go.Proofs.YtelbefihigkhjaaGreatDoor
open Go.ChangeShapes Go.WideShapes Go.ChangeAt Go.RowKit
set_option maxHeartbeats 16000000
set_option maxRecDepth 100000
set_option linter.unusedVariables false
set_option linter.unusedSimpArgs false
/-- is it played? -/
def lgt (rows cols : Int) : Bool:=decide (rows < 1) || (decide (cols < 1) || (decide (rows > 100000) || (decide (cols > 100000) || (decide (wrap64 (rows * cols) ≤ 400) || decide (wrap64 (rows * cols) > 4096)))))
theorem light_any (kd rows cols wd va vb : Int) (w : World) : Calls Tryz.prog 10 #[.agg #[.int .i64 kd,.int .i64 rows,.int .i64 cols,.int .i64 wd,.int .i64 va,.int .i64 vb]] w fun e w' => e = .returned (.bool (lgt rows cols)) ∧ Kept w w':=by
 obtain ⟨r,hr⟩ : ∃ r,r = lgt rows cols:=⟨_,rfl⟩
 rw [← hr]
 unfold lgt at hr
 obtain ⟨Y,hY⟩ : ∃ Y,Y = w.alloc (.cells #[.int .i64 kd,.int .i64 rows,.int .i64 cols,.int .i64 wd,.int .i64 va,.int .i64 vb] 23):=⟨_,rfl⟩
 obtain ⟨B0,hB0⟩ : ∃ B,B = w.heap.size:=⟨_,rfl⟩
 have hK : Kept w Y:=by rw [hY]; exact (Kept.refl w).alloc _ _
 have hP0 : Q6 Y B0 (.int .i64 kd) (.int .i64 rows) (.int .i64 cols) (.int .i64 wd) (.int .i64 va) (.int .i64 vb):=by rw [hY,hB0]; exact Q6.new w _ _ _ _ _ _ _
 go_enter Tryz.func10,Tryz.ntmps10
 go_upto_region 1 with fail
 rw [← hY,← hB0]
 clear hY hB0
 obtain ⟨p0,p1,p2,p3,p4,p5⟩:=hP0
 by_cases h0 : rows < 1
 ·have t0 : decide (rows < 1) = true:=decide_eq_true h0
  have hr2 : r = true:=by rw [hr]; simp [t0]
  clear hr
  subst hr2
  go_wp2_with fail
  go_ret
  exact ⟨rfl,hK⟩
 have t0 : decide (rows < 1) = false:=decide_eq_false h0
 by_cases h1 : cols < 1
 ·have t1 : decide (cols < 1) = true:=decide_eq_true h1
  have hr2 : r = true:=by rw [hr]; simp [t0,t1]
  clear hr
  subst hr2
  go_wp2_with fail
  go_ret
  exact ⟨rfl,hK⟩
 have t1 : decide (cols < 1) = false:=decide_eq_false h1
 by_cases h2 : rows > 100000
 ·have t2 : decide (rows > 100000) = true:=decide_eq_true h2
  have u2 : decide (100000 < rows) = true:=t2
  have hr2 : r = true:=by rw [hr]; simp [t0,t1,t2]
  clear hr
  subst hr2
  go_wp2_with fail
  go_ret
  exact ⟨rfl,hK⟩
 have t2 : decide (rows > 100000) = false:=decide_eq_false h2
 have u2 : decide (100000 < rows) = false:=t2
 by_cases h3 : cols > 100000
 ·have t3 : decide (cols > 100000) = true:=decide_eq_true h3
  have u3 : decide (100000 < cols) = true:=t3
  have hr2 : r = true:=by rw [hr]; simp [t0,t1,t2,t3]
  clear hr
  subst hr2
  go_wp2_with fail
  go_ret
  exact ⟨rfl,hK⟩
 have t3 : decide (cols > 100000) = false:=decide_eq_false h3
 have u3 : decide (100000 < cols) = false:=t3
 by_cases h4 : wrap64 (rows * cols) ≤ 400
 ·have t4 : decide (wrap64 (rows * cols) ≤ 400) = true:=decide_eq_true h4
  have hr2 : r = true:=by rw [hr]; simp [t0,t1,t2,t3,t4]
  clear hr
  subst hr2
  go_wp2_with fail
  go_ret
  exact ⟨rfl,hK⟩
 have t4 : decide (wrap64 (rows * cols) ≤ 400) = false:=decide_eq_false h4
 by_cases h5 : wrap64 (rows * cols) > 4096
 ·have t5 : decide (wrap64 (rows * cols) > 4096) = true:=decide_eq_true h5
  have u5 : decide (4096 < wrap64 (rows * cols)) = true:=t5
  have hr2 : r = true:=by rw [hr]; simp [t0,t1,t2,t3,t4,t5]
  clear hr
  subst hr2
  go_wp2_with fail
  go_ret
  exact ⟨rfl,hK⟩
 have t5 : decide (wrap64 (rows * cols) > 4096) = false:=decide_eq_false h5
 have u5 : decide (4096 < wrap64 (rows * cols)) = false:=t5
 have hr2 : r = false:=by rw [hr]; simp [t0,t1,t2,t3,t4,t5]
 clear hr
 subst hr2
 go_wp2_with fail
 go_ret
 exact ⟨rfl,hK⟩
theorem same_nil (w : World) : Calls Tryz.prog 13 #[zeroM,zeroM] w fun e w' => e = .returned (.bool true) ∧ Kept w w':=by
 obtain ⟨N,hN⟩ : ∃ N : Nat,Hid (N = 0):=⟨0,(show (0 : Nat) = 0 from rfl)⟩
 obtain ⟨rows,hrw⟩ : ∃ r : Int,Hid (r = 0):=⟨0,(show (0 : Int) = 0 from rfl)⟩
 obtain ⟨cols,hco⟩ : ∃ r : Int,Hid (r = 0):=⟨0,(show (0 : Int) = 0 from rfl)⟩
 obtain ⟨wd,hwd⟩ : ∃ r : Int,Hid (r = 0):=⟨0,(show (0 : Int) = 0 from rfl)⟩
 rw [show zeroM = .agg #[.int .i64 rows,.int .i64 cols,.int .i64 wd,.slice none N 0] by rw [hN.out,hrw.out,hco.out,hwd.out]]
 have n1 : (rows != rows) = false:=by simp
 have n2 : (cols != cols) = false:=by simp
 have n3 : (wd != wd) = false:=by simp
 have n4 : ((N : Int) != (N : Int)) = false:=by simp
 obtain ⟨X,hX⟩ : ∃ X,X = (w.alloc (.cells #[.int .i64 rows,.int .i64 cols,.int .i64 wd,.slice none N 0] 28)).alloc (.cells #[.int .i64 rows,.int .i64 cols,.int .i64 wd,.slice none N 0] 28):=⟨_,rfl⟩
 obtain ⟨B0,hB0⟩ : ∃ B,B = w.heap.size:=⟨_,rfl⟩
 obtain ⟨B1,hB1⟩ : ∃ B,B = B0 + 1:=⟨_,rfl⟩
 have hK : Kept w X:=by rw [hX]; exact ((Kept.refl w).alloc _ _).alloc _ _
 have hP0 : Q4 X B0 (.int .i64 rows) (.int .i64 cols) (.int .i64 wd) (.slice none N 0):=by rw [hX,hB0]; exact (Q4.new w _ _ _ _ _).alloc _ _
 have hP1 : Q4 X B1 (.int .i64 rows) (.int .i64 cols) (.int .i64 wd) (.slice none N 0):=by
  rw [hX,hB1,hB0]
  have:=Q4.new (w.alloc (.cells #[.int .i64 rows,.int .i64 cols,.int .i64 wd,.slice none N 0] 28)) (.int .i64 rows) (.int .i64 cols) (.int .i64 wd) (.slice none N 0) 28
  simpa using this
 go_enter Tryz.func13,Tryz.ntmps13
 go_upto_region 1 with fail
 rw [← hX,← hB0,← hB1]
 clear hX hB0 hB1
 have HP0 : Hid (Q4 X B0 (.int .i64 rows) (.int .i64 cols) (.int .i64 wd) (.slice none N 0)):=hP0
 have HP1 : Hid (Q4 X B1 (.int .i64 rows) (.int .i64 cols) (.int .i64 wd) (.slice none N 0)):=hP1
 obtain ⟨p0,p1,p2,p3,pf⟩:=hP0
 obtain ⟨r0,r1,r2,r3,rf⟩:=hP1
 go_wp2_with fail
 clear p0 p1 p2 p3 pf r0 r1 r2 r3 rf
 go_loopw [5] (fun i wr => ∃ k : Nat,k ≤ N ∧ i = .int .i64 k ∧ Kept X wr) (fun i _ => 0)
 case atStart => exact ⟨0,Nat.zero_le _,rfl,Kept.refl X⟩
 case round =>
  obtain ⟨k,hkN,rfl,hk⟩:=hrel
  obtain ⟨p0,p1,p2,p3,pf⟩:=HP0.out.kept hk
  obtain rfl : k = N:=by have:=hN.out; omega
  go_wp2_with fail
  go_ret
  exact ⟨rfl,hK.trans hk⟩
theorem same_walk (rows cols wd : Int) (N : Nat) (hN : N ≤ 100000) (L : List Int) (hL : L.length = N) (ga gb : Nat) (w : World) (hA : Own w ga N L) (hB : Own w gb N L) : Calls Tryz.prog 13 #[.agg #[.int .i64 rows,.int .i64 cols,.int .i64 wd,.slice (some ⟨ga,0,none⟩) N N],.agg #[.int .i64 rows,.int .i64 cols,.int .i64 wd,.slice (some ⟨gb,0,none⟩) N N]] w fun e w' => e = .returned (.bool true) ∧ Kept w w':=by
 have n1 : (rows != rows) = false:=by simp
 have n2 : (cols != cols) = false:=by simp
 have n3 : (wd != wd) = false:=by simp
 have n4 : ((N : Int) != (N : Int)) = false:=by simp
 obtain ⟨X,hX⟩ : ∃ X,X = (w.alloc (.cells #[.int .i64 rows,.int .i64 cols,.int .i64 wd,.slice (some ⟨ga,0,none⟩) N N] 28)).alloc (.cells #[.int .i64 rows,.int .i64 cols,.int .i64 wd,.slice (some ⟨gb,0,none⟩) N N] 28):=⟨_,rfl⟩
 obtain ⟨B0,hB0⟩ : ∃ B,B = w.heap.size:=⟨_,rfl⟩
 obtain ⟨B1,hB1⟩ : ∃ B,B = B0 + 1:=⟨_,rfl⟩
 have hK : Kept w X:=by rw [hX]; exact ((Kept.refl w).alloc _ _).alloc _ _
 have hP0 : Q4 X B0 (.int .i64 rows) (.int .i64 cols) (.int .i64 wd) (.slice (some ⟨ga,0,none⟩) N N):=by rw [hX,hB0]; exact (Q4.new w _ _ _ _ _).alloc _ _
 have hP1 : Q4 X B1 (.int .i64 rows) (.int .i64 cols) (.int .i64 wd) (.slice (some ⟨gb,0,none⟩) N N):=by
  rw [hX,hB1,hB0]
  have:=Q4.new (w.alloc (.cells #[.int .i64 rows,.int .i64 cols,.int .i64 wd,.slice (some ⟨ga,0,none⟩) N N] 28)) (.int .i64 rows) (.int .i64 cols) (.int .i64 wd) (.slice (some ⟨gb,0,none⟩) N N) 28
  simpa using this
 go_enter Tryz.func13,Tryz.ntmps13
 go_upto_region 1 with fail
 rw [← hX,← hB0,← hB1]
 clear hX hB0 hB1
 have HP0 : Hid (Q4 X B0 (.int .i64 rows) (.int .i64 cols) (.int .i64 wd) (.slice (some ⟨ga,0,none⟩) N N)):=hP0
 have HP1 : Hid (Q4 X B1 (.int .i64 rows) (.int .i64 cols) (.int .i64 wd) (.slice (some ⟨gb,0,none⟩) N N)):=hP1
 obtain ⟨p0,p1,p2,p3,pf⟩:=hP0
 obtain ⟨r0,r1,r2,r3,rf⟩:=hP1
 go_wp2_with fail
 clear p0 p1 p2 p3 pf r0 r1 r2 r3 rf
 go_loopw [5] (fun i wr => ∃ k : Nat,k ≤ N ∧ i = .int .i64 k ∧ Kept X wr) (fun i _ => N - (intOf i).toNat)
 case atStart => exact ⟨0,Nat.zero_le _,rfl,Kept.refl X⟩
 case round =>
  obtain ⟨k,hkN,rfl,hk⟩:=hrel
  have hQ0:=HP0.out.kept hk
  have hQ1:=HP1.out.kept hk
  by_cases hlt : k < N
  ·have HS : Hid (∀ u,Kept wr u → u.cell? ⟨B0,3,none⟩ = some (.slice (some ⟨ga,0,none⟩) N N) ∧ u.cell? ⟨B1,3,none⟩ = some (.slice (some ⟨gb,0,none⟩) N N) ∧ u.cell? ⟨ga,k,none⟩ = some (.int .i64 (L.getD k 0)) ∧ u.cell? ⟨gb,k,none⟩ = some (.int .i64 (L.getD k 0))):=fun u q => ⟨(hQ0.kept q).c3,(hQ1.kept q).c3,(((hA.kept hK).kept hk).kept q).cell k (by omega),(((hB.kept hK).kept hk).kept q).cell k (by omega)⟩
   have n5 : ((L.getD k 0) != (L.getD k 0)) = false:=by simp
   obtain ⟨p0,p1,p2,p3,pf⟩:=hQ0
   clear hQ1
   go_upto_region 6 with fail
   clear p0 p1 p2 p3 pf
   refine wp_region_late [] (fun u => u.cell? ⟨B0,3,none⟩ = some (.slice (some ⟨ga,0,none⟩) N N) ∧ u.cell? ⟨B1,3,none⟩ = some (.slice (some ⟨gb,0,none⟩) N N) ∧ u.cell? ⟨ga,k,none⟩ = some (.int .i64 (L.getD k 0)) ∧ u.cell? ⟨gb,k,none⟩ = some (.int .i64 (L.getD k 0))) (by kernel_rfl) (HS.out _ (Kept.refl wr).drew) (fun hHeld => ?_)
   refine tkD (i:=0) (v:=?_) rfl hHeld ?_
   (try simp only [Act.put,zA,zB,zC,zD,zE,zF])
   refine tkD (i:=1) (v:=?_) rfl hHeld ?_
   (try simp only [Act.put,zA,zB,zC,zD,zE,zF])
   refine tkD (i:=2) (v:=?_) rfl hHeld ?_
   (try simp only [Act.put,zA,zB,zC,zD,zE,zF])
   refine tkD (i:=3) (v:=?_) rfl hHeld ?_
   (try simp only [Act.put,zA,zB,zC,zD,zE,zF])
   refine tkD (i:=4) (v:=?_) rfl hHeld ?_
   (try simp only [Act.put,zA,zB,zC,zD,zE,zF])
   refine tkD (i:=5) (v:=?_) rfl hHeld ?_
   (try simp only [Act.put,zA,zB,zC,zD,zE,zF])
   refine tkD (i:=6) (v:=?_) rfl hHeld ?_
   (try simp only [Act.put,zA,zB,zC,zD,zE,zF])
   refine tkD (i:=7) (v:=?_) rfl hHeld ?_
   (try simp only [Act.put,zA,zB,zC,zD,zE,zF])
   refine tkD (i:=8) (v:=?_) rfl hHeld ?_
   (try simp only [Act.put,zA,zB,zC,zD,zE,zF])
   refine tkD (i:=9) (v:=?_) rfl hHeld ?_
   (try simp only [Act.put,zA,zB,zC,zD,zE,zF])
   refine tkD (i:=10) (v:=?_) rfl hHeld ?_
   (try simp only [Act.put,zA,zB,zC,zD,zE,zF])
   refine wpAnyD_done (by kernel_rfl) ?_ _
   (try simp only [Act.put,zA,zB,zC,zD,zE,zF])
   generalize L.getD k 0 = lk at *
   go_wp2_with fail
   go_roundw
   case rel => exact ⟨k + 1,by omega,by go_num,hk.trans (Kept.refl wr).drew⟩
   case measure => simp [intOf]; omega
  ·obtain rfl : k = N:=by omega
   obtain ⟨p0,p1,p2,p3,pf⟩:=hQ0
   go_wp2_with fail
   go_ret
   exact ⟨rfl,hK.trans hk⟩
end Go.Proofs.YtelbefihigkhjaaGreatDoor

namespace Go.Proofs.YtelbefihigkhjaaGreatDoor
open Go.ChangeShapes Go.WideShapes Go.ChangeAt Go.RowKit
set_option maxHeartbeats 16000000
set_option maxRecDepth 100000
set_option linter.unusedVariables false
set_option linter.unusedSimpArgs false
theorem one_fe : feN 64 (fun _ => ofN 4607182418800017408 64) 2 = 0:=by decide +kernel
theorem one_bt : stl 2 (btN 64 (fun _ => ofN 4607182418800017408 64)) 2 = [4607182418800017408,4607182418800017408]:=by decide +kernel
theorem make_one (w : World) (hT : Tab w) : Calls Tryz.prog 11 #[initV 1 1 2 64 4607182418800017408 0,.int .i64 0,.int .i64 0] w fun e w' => ∃ g,e = .returned (.tuple #[.agg #[.int .i64 1,.int .i64 2,.int .i64 64,.slice (some ⟨g,0,none⟩) 2 2],.int .i64 0]) ∧ Own w' g 2 [4607182418800017408,4607182418800017408] ∧ Kept w w':=by
 have hz : ckS 1 2 64 = 0:=by decide +kernel
 have hn : cks 1 4607182418800017408 0 = 0:=by decide +kernel
 have ca : cls 4607182418800017408 64 < 3:=by decide +kernel
 have cb : cls 0 64 < 3:=by decide +kernel
 have KZ:=fun u => zero_yes 1 2 64 (.inl rfl) hz 2 (by decide +kernel) (by decide) u
 have KN:=fun u => checkNumbers_any 1 1 2 64 4607182418800017408 0 (by decide) (by decide) (by decide) u
 rw [hn] at KN
 have:=make_el (fun _ => ofN 4607182418800017408 64) (fun i => (zf_vz _ 64 (.inl rfl) ca).1.ok) 1 1 2 64 4607182418800017408 0 0 0 2 (by decide) (.inl rfl) (by decide) (by decide) KZ KN (fun u hT => elok4 1 1 2 64 4607182418800017408 0 0 0 (by decide) ca (by decide) cb 2 (by decide) u hT (.inr rfl)) w hT
 rw [one_fe,one_bt] at this
 refine this.mono ?_
 rintro e w' ⟨k,⟨-,g,he,-,ho⟩ | ⟨h0,-⟩⟩
 ·exact ⟨g,he,ho,k⟩
 ·exact absurd h0 (by decide)
theorem alive16 (w : World) (hT : Tab w) : Calls Tryz.prog 9 #[] w fun e w' => e = .returned (.bool true) ∧ Kept w w':=by
 have KM : Hid (∀ u,Tab u → Calls Tryz.prog 11 #[initV 1 1 2 64 4607182418800017408 0,.int .i64 0,.int .i64 0] u fun e w' => ∃ g,e = .returned (.tuple #[.agg #[.int .i64 1,.int .i64 2,.int .i64 64,.slice (some ⟨g,0,none⟩) 2 2],.int .i64 0]) ∧ Own w' g 2 [4607182418800017408,4607182418800017408] ∧ Kept u w'):=make_one
 go_enter Tryz.func9,Tryz.ntmps9
 go_wp2_with fail
 refine (KM.out _ hT).mono ?_
 rintro e w1 ⟨g,rfl,ho,k1⟩
 go_upto_region 2 with fail
 obtain ⟨V,hV⟩ : ∃ V,V = w1.alloc (.cells #[.int .i64 1,.int .i64 2,.int .i64 64,.slice (some ⟨g,0,none⟩) 2 2] 28):=⟨_,rfl⟩
 obtain ⟨B8,hB8⟩ : ∃ B,B = w1.heap.size:=⟨_,rfl⟩
 have kV : Kept w V:=by rw [hV]; exact k1.alloc _ _
 have hP8 : Q4 V B8 (.int .i64 1) (.int .i64 2) (.int .i64 64) (.slice (some ⟨g,0,none⟩) 2 2):=by rw [hV,hB8]; exact Q4.new w1 _ _ _ _ _
 have oV : Own V g 2 [4607182418800017408,4607182418800017408]:=by rw [hV]; exact ho.kept ((Kept.refl w1).alloc _ _)
 rw [← hV,← hB8]
 clear hV hB8 ho k1
 have cg : V.cell? ⟨g,0,none⟩ = some (.int .i64 4607182418800017408):=oV.cell 0 (by decide)
 obtain ⟨p0,p1,p2,p3,pf⟩:=hP8
 go_wp2_with fail
 go_ret
 exact ⟨rfl,kV⟩
end Go.Proofs.YtelbefihigkhjaaGreatDoor
