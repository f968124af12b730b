/- What exact's Round, Quot and Root answer in all cases. The laws' told; the document's First, Round, QuotOdd, Root, by its kinds. The program's and the document's Round, Quot, Root are one. What Round, Quot and Root answer, and that the document says so, in all cases. -/
import Derived.Test.YtbffekcjdcihpaaGreatDoorPat
import Derived.Test.YtbffekcjdcihpaaGreatDoorPap
import Derived.Test.YtbffekcjdcihpaaGreatDoorPai
import Derived.Test.YtbffekcjdcihpaaGreatDoorPas
namespace Go.Proofs.YtbffekcjdcihpaaGreatDoor
open Go.ChangeShapes Go.WideShapes Go.ChangeAt Go.RowKit
set_option linter.unusedVariables false
set_option linter.unusedSimpArgs false
set_option maxHeartbeats 16000000
set_option maxRecDepth 100000
theorem av1 (a : Nm) (ra : Rg a.mag) (la : a.mag.length < 60000000) (a1 : Option Addr) (c1 : Nat) (w : World) (h1 : Sl w (.slice a1 a.mag.length c1) a.mag) : Hid (∀ u, Kept ((w.alloc (.cells #[.bool a.neg, .slice a1 a.mag.length c1, .int .i64 a.exp] 29)).alloc (.cells #[.bool a.neg, .slice a1 a.mag.length c1, .int .i64 a.exp] 29)) u → Calls Tryz.prog 74 #[.slice (some ⟨w.heap.size + 1, 0, none⟩) 1 1] u fun e w' => e = .returned (.bool (vld a)) ∧ Kept u w') := fun u k => by
 have hK : Kept w ((w.alloc (.cells #[.bool a.neg, .slice a1 a.mag.length c1, .int .i64 a.exp] 29)).alloc (.cells #[.bool a.neg, .slice a1 a.mag.length c1, .int .i64 a.exp] 29)) := ((Kept.refl w).alloc _ _).alloc _ _
 have hb : w.heap.size + 1 < ((w.alloc (.cells #[.bool a.neg, .slice a1 a.mag.length c1, .int .i64 a.exp] 29)).alloc (.cells #[.bool a.neg, .slice a1 a.mag.length c1, .int .i64 a.exp] 29)).heap.size := by simp
 exact (allValid_at (w.heap.size + 1) (Nat.lt_of_lt_of_le hb k.below.size) a.neg a.mag ra (by omega) a1 c1 a.exp (h1.kept (hK.trans k)) ((k.below.cell (p := ⟨w.heap.size + 1, 0, none⟩) hb).trans (by simp [go_sem])) ((k.below.cell (p := ⟨w.heap.size + 1, 1, none⟩) hb).trans (by simp [go_sem])) ((k.below.cell (p := ⟨w.heap.size + 1, 2, none⟩) hb).trans (by simp [go_sem])) (vld a) rfl).out u (Kept.refl _)
theorem av2 (a b : Nm) (ra : Rg a.mag) (rb : Rg b.mag) (la : a.mag.length < 60000000) (lb : b.mag.length < 60000000) (a1 a2 : Option Addr) (c1 c2 : Nat) (w : World) (h1 : Sl w (.slice a1 a.mag.length c1) a.mag) (h2 : Sl w (.slice a2 b.mag.length c2) b.mag) : Hid (∀ u, Kept (((w.alloc (.cells #[.bool a.neg, .slice a1 a.mag.length c1, .int .i64 a.exp] 29)).alloc (.cells #[.bool b.neg, .slice a2 b.mag.length c2, .int .i64 b.exp] 29)).alloc (.cells (pairC a.neg (.slice a1 a.mag.length c1) a.exp b.neg (.slice a2 b.mag.length c2) b.exp) 29)) u → Calls Tryz.prog 74 #[.slice (some ⟨w.heap.size + 2, 0, none⟩) 2 2] u fun e w' => e = .returned (.bool (vld a && vld b)) ∧ Kept u w') := fun u k => by
 have hK : Kept w (((w.alloc (.cells #[.bool a.neg, .slice a1 a.mag.length c1, .int .i64 a.exp] 29)).alloc (.cells #[.bool b.neg, .slice a2 b.mag.length c2, .int .i64 b.exp] 29)).alloc (.cells (pairC a.neg (.slice a1 a.mag.length c1) a.exp b.neg (.slice a2 b.mag.length c2) b.exp) 29)) := (((Kept.refl w).alloc _ _).alloc _ _).alloc _ _
 have hb' : w.heap.size + 2 < (((w.alloc (.cells #[.bool a.neg, .slice a1 a.mag.length c1, .int .i64 a.exp] 29)).alloc (.cells #[.bool b.neg, .slice a2 b.mag.length c2, .int .i64 b.exp] 29)).alloc (.cells (pairC a.neg (.slice a1 a.mag.length c1) a.exp b.neg (.slice a2 b.mag.length c2) b.exp) 29)).heap.size := by simp
 exact allValid_2 u (w.heap.size + 2) 2 a.neg b.neg a1 a2 a.mag.length c1 b.mag.length c2 a.exp b.exp (vld a) (vld b) (Nat.lt_of_lt_of_le hb' k.below.size) ((k.below.cell (p := ⟨w.heap.size + 2, 0, none⟩) hb').trans (by simp [go_sem])) ((k.below.cell (p := ⟨w.heap.size + 2, 1, none⟩) hb').trans (by simp [go_sem])) ((k.below.cell (p := ⟨w.heap.size + 2, 2, none⟩) hb').trans (by simp [go_sem])) ((k.below.cell (p := ⟨w.heap.size + 2, 3, none⟩) hb').trans (by simp [go_sem])) ((k.below.cell (p := ⟨w.heap.size + 2, 4, none⟩) hb').trans (by simp [go_sem])) ((k.below.cell (p := ⟨w.heap.size + 2, 5, none⟩) hb').trans (by simp [go_sem])) (fun v kv => xvalid_any a ra (by omega) (.agg #[.bool a.neg, .slice a1 a.mag.length c1, .int .i64 a.exp]) v ⟨_, rfl, ((h1.kept hK).kept k).kept kv⟩) (fun v kv => xvalid_any b rb (by omega) (.agg #[.bool b.neg, .slice a2 b.mag.length c2, .int .i64 b.exp]) v ⟨_, rfl, ((h2.kept hK).kept k).kept kv⟩)
theorem fe_ok {n way : Int} {ok : Bool} (h : FE n way ok = 0) : (n = 64 ∨ n = 32) ∧ (way = 0 ∨ way = 1 ∨ way = 2) ∧ ok = true := by
 unfold FE at h
 split at h
 ·rename_i hn
  split at h
  ·exact absurd h (by decide)
  ·split at h
   ·rename_i h2 h3
    exact ⟨hn, by omega, h3⟩
   ·exact absurd h (by decide)
 ·exact absurd h (by decide)
theorem xquot_div (n pr le fi way : Int) (fv : Nat) (n1 n2 : Bool) (a1 a2 : Option Addr) (l1 c1 l2 c2 : Nat) (x1 x2 : Int) (w : World)
  (KR : Hid (Calls Tryz.prog 79 #[.int .i64 n, .int .i64 way, .slice (some ⟨w.heap.size + 2, 0, none⟩) 2 2] (((w.alloc (.cells #[.bool n1, .slice a1 l1 c1, .int .i64 x1] 29)).alloc (.cells #[.bool n2, .slice a2 l2 c2, .int .i64 x2] 29)).alloc (.cells (pairC n1 (.slice a1 l1 c1) x1 n2 (.slice a2 l2 c2) x2) 29)) fun e w' => e = .returned (.tuple #[.agg #[.int .i64 n, .int .i64 pr, .int .i64 le, .int .i64 fi, .func (.func fv) #[] #[]], .int .i64 0]) ∧ Kept (((w.alloc (.cells #[.bool n1, .slice a1 l1 c1, .int .i64 x1] 29)).alloc (.cells #[.bool n2, .slice a2 l2 c2, .int .i64 x2] 29)).alloc (.cells (pairC n1 (.slice a1 l1 c1) x1 n2 (.slice a2 l2 c2) x2) 29)) w'))
  (KG : Hid (∀ u, Kept w u → Calls Tryz.prog 66 #[.agg #[.bool n2, .slice a2 l2 c2, .int .i64 x2]] u fun e w' => e = .returned (.int .i64 0) ∧ Kept u w')) :
  Calls Tryz.prog 41 #[.agg #[.bool n1, .slice a1 l1 c1, .int .i64 x1], .agg #[.bool n2, .slice a2 l2 c2, .int .i64 x2], .int .i64 n, .int .i64 way] w fun e w' => e = .returned (.tuple #[.int .i64 0, .bool false, .int .i64 8]) ∧ Kept w w' := by
 have hK : Kept w (((w.alloc (.cells #[.bool n1, .slice a1 l1 c1, .int .i64 x1] 29)).alloc (.cells #[.bool n2, .slice a2 l2 c2, .int .i64 x2] 29)).alloc (.cells (pairC n1 (.slice a1 l1 c1) x1 n2 (.slice a2 l2 c2) x2) 29)) := (((Kept.refl w).alloc _ _).alloc _ _).alloc _ _
 go_enter Tryz.func41, Tryz.ntmps41
 go_wp2_with fail
 refine KR.out.mono ?_
 rintro e w1 ⟨rfl, hk1⟩
 have hsz : w.heap.size + 3 ≤ w1.heap.size := by have := hk1.below.size; simpa using this
 have k1' : Kept ((w.alloc (.cells #[.bool n1, .slice a1 l1 c1, .int .i64 x1] 29)).alloc (.cells #[.bool n2, .slice a2 l2 c2, .int .i64 x2] 29)) (w1.alloc (.cells #[.int .i64 n, .int .i64 pr, .int .i64 le, .int .i64 fi, .func (.func fv) #[] #[]] 95)) := ((Kept.refl _).alloc _ _).trans (hk1.alloc _ _)
 have hb1 : w.heap.size + 1 < ((w.alloc (.cells #[.bool n1, .slice a1 l1 c1, .int .i64 x1] 29)).alloc (.cells #[.bool n2, .slice a2 l2 c2, .int .i64 x2] 29)).heap.size := by simp
 have q0 := (k1'.below.cell (p := ⟨w.heap.size + 1, 0, none⟩) hb1).trans (show _ = some (.bool n2) by simp [go_sem])
 have q1 := (k1'.below.cell (p := ⟨w.heap.size + 1, 1, none⟩) hb1).trans (show _ = some (.slice a2 l2 c2) by simp [go_sem])
 have q2 := (k1'.below.cell (p := ⟨w.heap.size + 1, 2, none⟩) hb1).trans (show _ = some (.int .i64 x2) by simp [go_sem])
 clear hsz hb1
 go_wp2_with fail
 refine (KG.out _ (hK.trans (hk1.alloc _ _))).mono ?_
 rintro e w2 ⟨rfl, hk2⟩
 go_wp2_with fail
 go_ret3
 exact ⟨rfl, hK.trans ((hk1.alloc _ _).trans hk2)⟩
theorem xroot_neg (n pr le fi way : Int) (fv : Nat) (ao : Option Addr) (ln c : Nat) (x : Int) (w : World)
  (KR : Hid (Calls Tryz.prog 79 #[.int .i64 n, .int .i64 way, .slice (some ⟨w.heap.size + 1, 0, none⟩) 1 1] ((w.alloc (.cells #[.bool true, .slice ao ln c, .int .i64 x] 29)).alloc (.cells #[.bool true, .slice ao ln c, .int .i64 x] 29)) fun e w' => e = .returned (.tuple #[.agg #[.int .i64 n, .int .i64 pr, .int .i64 le, .int .i64 fi, .func (.func fv) #[] #[]], .int .i64 0]) ∧ Kept ((w.alloc (.cells #[.bool true, .slice ao ln c, .int .i64 x] 29)).alloc (.cells #[.bool true, .slice ao ln c, .int .i64 x] 29)) w')) :
  Calls Tryz.prog 42 #[.agg #[.bool true, .slice ao ln c, .int .i64 x], .int .i64 n, .int .i64 way] w fun e w' => e = .returned (.tuple #[.int .i64 0, .bool false, .int .i64 9]) ∧ Kept w w' := by
 have hK : Kept w ((w.alloc (.cells #[.bool true, .slice ao ln c, .int .i64 x] 29)).alloc (.cells #[.bool true, .slice ao ln c, .int .i64 x] 29)) := ((Kept.refl w).alloc _ _).alloc _ _
 go_enter Tryz.func42, Tryz.ntmps42
 go_wp2_with fail
 refine KR.out.mono ?_
 rintro e w1 ⟨rfl, hk1⟩
 have hsz : w.heap.size + 2 ≤ w1.heap.size := by have := hk1.below.size; simpa using this
 have k1' : Kept (w.alloc (.cells #[.bool true, .slice ao ln c, .int .i64 x] 29)) (w1.alloc (.cells #[.int .i64 n, .int .i64 pr, .int .i64 le, .int .i64 fi, .func (.func fv) #[] #[]] 95)) := ((Kept.refl _).alloc _ _).trans (hk1.alloc _ _)
 have hb1 : w.heap.size < (w.alloc (.cells #[.bool true, .slice ao ln c, .int .i64 x] 29)).heap.size := by simp
 have q0 := (k1'.below.cell (p := ⟨w.heap.size, 0, none⟩) hb1).trans (show _ = some (.bool true) by simp [go_sem])
 clear hsz hb1
 go_wp2_with fail
 go_ret3
 exact ⟨rfl, hK.trans (hk1.alloc _ _)⟩
/- Round -/
theorem round_ans (n way : Int) (a : Nm) (ra : Rg a.mag) (la : a.mag.length < 60000000) (a1 : Option Addr) (c1 : Nat) (w : World) (hT : Tab w) (h1 : Sl w (.slice a1 a.mag.length c1) a.mag) (q : Int) (o : Bool) (fe : Int) (hfe : fe = FE n way (vld a)) (hno : fe ≠ 0 → q = 0 ∧ o = false) (hok : fe = 0 → q = rzN n way a ∧ o = oxN n way a) : Calls Tryz.prog 40 #[.agg #[.bool a.neg, .slice a1 a.mag.length c1, .int .i64 a.exp], .int .i64 n, .int .i64 way] w fun e w' => e = .returned (.tuple #[.int .i64 q, .bool o, .int .i64 fe]) ∧ Kept w w' := by
 by_cases h0 : fe = 0
 ·obtain ⟨rfl, rfl⟩ := hok h0
  obtain ⟨hn, hw, hv⟩ := fe_ok (hfe.symm.trans h0)
  rw [h0]
  exact roundz n way hn hw a hv a1 c1 w hT h1
 ·obtain ⟨rfl, rfl⟩ := hno h0
  exact xround_no n way fe (by simpa using h0) a.neg a1 a.mag.length c1 a.exp w (by rw [hfe]; exact roundingOf_no n way (vld a) (by rw [← hfe]; exact h0) _ _ (av1 a ra la a1 c1 w h1))
/- Quot, where it is refused, by 0, and of 0 -/
theorem quot_no (n way : Int) (a b : Nm) (ra : Rg a.mag) (rb : Rg b.mag) (la : a.mag.length < 60000000) (lb : b.mag.length < 60000000) (a1 a2 : Option Addr) (c1 c2 : Nat) (w : World) (h1 : Sl w (.slice a1 a.mag.length c1) a.mag) (h2 : Sl w (.slice a2 b.mag.length c2) b.mag) (hT : Tab w) (fe : Int) (hfe : fe = FE n way (vld a && vld b)) (h0 : fe ≠ 0) : Calls Tryz.prog 41 #[.agg #[.bool a.neg, .slice a1 a.mag.length c1, .int .i64 a.exp], .agg #[.bool b.neg, .slice a2 b.mag.length c2, .int .i64 b.exp], .int .i64 n, .int .i64 way] w fun e w' => e = .returned (.tuple #[.int .i64 0, .bool false, .int .i64 fe]) ∧ Kept w w' :=
 xquot_no n way fe (by simpa using h0) a.neg b.neg a1 a2 a.mag.length c1 b.mag.length c2 a.exp b.exp w (by rw [hfe]; exact roundingOf_no n way (vld a && vld b) (by rw [← hfe]; exact h0) _ _ (av2 a b ra rb la lb a1 a2 c1 c2 w h1 h2))
theorem quot_div (n way : Int) (hn : n = 64 ∨ n = 32) (hw : way = 0 ∨ way = 1 ∨ way = 2) (a b : Nm) (ra : Rg a.mag) (rb : Rg b.mag) (la : a.mag.length < 60000000) (lb : b.mag.length < 60000000) (a1 a2 : Option Addr) (c1 c2 : Nat) (w : World) (h1 : Sl w (.slice a1 a.mag.length c1) a.mag) (h2 : Sl w (.slice a2 b.mag.length c2) b.mag) (ha : vld a = true) (hb : vld b = true) (hbm : b.mag.length = 0) : Calls Tryz.prog 41 #[.agg #[.bool a.neg, .slice a1 a.mag.length c1, .int .i64 a.exp], .agg #[.bool b.neg, .slice a2 b.mag.length c2, .int .i64 b.exp], .int .i64 n, .int .i64 way] w fun e w' => e = .returned (.tuple #[.int .i64 0, .bool false, .int .i64 8]) ∧ Kept w w' := by
 have hv := av2 a b ra rb la lb a1 a2 c1 c2 w h1 h2
 rw [ha, hb] at hv
 refine xquot_div n _ _ _ way _ a.neg b.neg a1 a2 a.mag.length c1 b.mag.length c2 a.exp b.exp w (roundingOf_ok n way hn hw _ _ hv) (fun u _ => ?_)
 have := signOf_any b.neg a2 b.mag.length c2 b.exp u
 rw [if_pos hbm] at this
 exact this
theorem quot_nought (n way : Int) (hn : n = 64 ∨ n = 32) (hw : way = 0 ∨ way = 1 ∨ way = 2) (a b : Nm) (ra : Rg a.mag) (rb : Rg b.mag) (la : a.mag.length < 60000000) (lb : b.mag.length < 60000000) (a1 a2 : Option Addr) (c1 c2 : Nat) (w : World) (h1 : Sl w (.slice a1 a.mag.length c1) a.mag) (h2 : Sl w (.slice a2 b.mag.length c2) b.mag) (ha : vld a = true) (hb : vld b = true) (ham : a.mag.length = 0) (hbm : b.mag.length ≠ 0) : Calls Tryz.prog 41 #[.agg #[.bool a.neg, .slice a1 a.mag.length c1, .int .i64 a.exp], .agg #[.bool b.neg, .slice a2 b.mag.length c2, .int .i64 b.exp], .int .i64 n, .int .i64 way] w fun e w' => e = .returned (.tuple #[.int .i64 0, .bool false, .int .i64 0]) ∧ Kept w w' := by
 have hv := av2 a b ra rb la lb a1 a2 c1 c2 w h1 h2
 rw [ha, hb] at hv
 have KG : ∀ u, Kept w u → _ := fun u _ => signOf_any b.neg a2 b.mag.length c2 b.exp u
 rw [if_neg hbm] at KG
 have hsg : ((if b.neg = true then (-1 : Int) else 1) == 0) = false := by cases b.neg <;> rfl
 have KQ : ∀ u, Kept w u → _ := fun u _ => quotient_nil a.neg a1 c1 a.exp b.neg a2 b.mag.length c2 b.exp u
 rw [← ham] at KQ
 have KR := roundingOf_ok n way hn hw _ _ hv
 exact xquot way _ n _ _ _ a.neg b.neg a1 a2 a.mag.length c1 b.mag.length c2 a.exp b.exp _ _ _ hsg _ _ _ _ w KR KG KQ (fun u _ => round_zero n _ _ _ _ 0 false false u)
/- Root, where it is refused, of what is below 0, and of 0 -/
theorem root_no (n way : Int) (a : Nm) (ra : Rg a.mag) (la : a.mag.length < 60000000) (a1 : Option Addr) (c1 : Nat) (w : World) (h1 : Sl w (.slice a1 a.mag.length c1) a.mag) (fe : Int) (hfe : fe = FE n way (vld a)) (h0 : fe ≠ 0) : Calls Tryz.prog 42 #[.agg #[.bool a.neg, .slice a1 a.mag.length c1, .int .i64 a.exp], .int .i64 n, .int .i64 way] w fun e w' => e = .returned (.tuple #[.int .i64 0, .bool false, .int .i64 fe]) ∧ Kept w w' :=
 xroot_no n way fe (by simpa using h0) a.neg a1 a.mag.length c1 a.exp w (by rw [hfe]; exact roundingOf_no n way (vld a) (by rw [← hfe]; exact h0) _ _ (av1 a ra la a1 c1 w h1))
theorem root_below (n way : Int) (hn : n = 64 ∨ n = 32) (hw : way = 0 ∨ way = 1 ∨ way = 2) (a : Nm) (ra : Rg a.mag) (la : a.mag.length < 60000000) (a1 : Option Addr) (c1 : Nat) (w : World) (h1 : Sl w (.slice a1 a.mag.length c1) a.mag) (ha : vld a = true) (hng : a.neg = true) : Calls Tryz.prog 42 #[.agg #[.bool a.neg, .slice a1 a.mag.length c1, .int .i64 a.exp], .int .i64 n, .int .i64 way] w fun e w' => e = .returned (.tuple #[.int .i64 0, .bool false, .int .i64 9]) ∧ Kept w w' := by
 have hv := av1 a ra la a1 c1 w h1
 rw [ha, hng] at hv
 rw [hng]
 exact xroot_neg n _ _ _ way _ a1 a.mag.length c1 a.exp w (roundingOf_ok n way hn hw _ _ hv)
theorem root_nought (n way : Int) (hn : n = 64 ∨ n = 32) (hw : way = 0 ∨ way = 1 ∨ way = 2) (a : Nm) (ra : Rg a.mag) (la : a.mag.length < 60000000) (a1 : Option Addr) (c1 : Nat) (w : World) (h1 : Sl w (.slice a1 a.mag.length c1) a.mag) (ha : vld a = true) (ham : a.mag.length = 0) (hng : a.neg = false) : Calls Tryz.prog 42 #[.agg #[.bool a.neg, .slice a1 a.mag.length c1, .int .i64 a.exp], .int .i64 n, .int .i64 way] w fun e w' => e = .returned (.tuple #[.int .i64 0, .bool false, .int .i64 0]) ∧ Kept w w' := by
 have hv := av1 a ra la a1 c1 w h1
 rw [ha, hng] at hv
 rw [hng]
 have KQ : ∀ u, Kept w u → _ := fun u _ => root_nil false a1 c1 a.exp u
 rw [← ham] at KQ
 have KR : Hid (∀ u, Kept ((w.alloc (.cells #[.bool false, .slice a1 a.mag.length c1, .int .i64 a.exp] 29)).alloc (.cells #[.bool false, .slice a1 a.mag.length c1, .int .i64 a.exp] 29)) u → Calls Tryz.prog 79 #[.int .i64 n, .int .i64 way, .slice (some ⟨w.heap.size + 1, 0, none⟩) 1 1] u fun e w' => e = .returned (.tuple #[.agg #[.int .i64 n, .int .i64 (kprec n), .int .i64 (kleast n), .int .i64 (kinf n), .func (.func (wfv way)) #[] #[]], .int .i64 0]) ∧ Kept u w') := fun u k => roundingOf_ok n way hn hw _ u (fun u2 k2 => hv.out u2 (k.trans k2))
 exact xroot way _ n _ _ _ a1 a.mag.length c1 a.exp _ _ #[] _ _ _ _ w KR KQ (fun u _ => round_zero n _ _ _ _ 0 false false u)
theorem told_true (q : Int) (o : Bool) (fe u : Int) (odd : Bool) (hno : fe ≠ 0 → q = 0 ∧ o = false) (hok : fe = 0 → u = q ∧ odd = o) (w : World) : Calls Tryz.prog 45 #[.int .i64 q, .bool o, .int .i64 fe, .int .i64 fe, .int .i64 u, .bool odd] w fun e w' => e = .returned (.bool true) ∧ Kept w w' := by
 by_cases h : fe = 0
 ·obtain ⟨rfl, rfl⟩ := hok h
  subst h
  clear hno hok
  have e1 : (u == u) = true := by simp
  have e2 : (odd == odd) = true := by simp
  go_enter Tryz.func45, Tryz.ntmps45
  go_wp2
  go_ret
  exact ⟨rfl, Kept.refl _⟩
 ·obtain ⟨rfl, rfl⟩ := hno h
  clear hno hok
  have e1 : (fe == 0) = false := by simpa using h
  have e2 : (fe == fe) = true := by simp
  go_enter Tryz.func45, Tryz.ntmps45
  go_wp2
  go_ret
  exact ⟨rfl, Kept.refl _⟩
theorem rway_any (way : Int) (w : World) : Calls Tryz.prog 85 #[.int .i64 way] w fun e w' => e = .returned (.bool (decide (0 ≤ way ∧ way ≤ 2))) ∧ Kept w w' := by
 by_cases h : 0 ≤ way
 ·have h1 : decide (0 ≤ way) = true := decide_eq_true h
  have h2 : decide (0 ≤ way ∧ way ≤ 2) = decide (way ≤ 2) := decide_eq_decide.2 ⟨fun g => g.2, fun g => ⟨h, g⟩⟩
  rw [h2]
  clear h2
  go_enter Tryz.func85, Tryz.ntmps85
  go_wp2
  go_ret
  exact ⟨rfl, Kept.refl _⟩
 ·have h1 : decide (0 ≤ way) = false := decide_eq_false h
  rw [show decide (0 ≤ way ∧ way ≤ 2) = false from decide_eq_false (fun g => h g.1)]
  go_enter Tryz.func85, Tryz.ntmps85
  go_wp2
  go_ret
  exact ⟨rfl, Kept.refl _⟩
def knd (n : Int) : Value := if n = 64 then .agg #[.int .i64 64, .int .i64 53, .int .i64 4503599627370496, .int .i64 2047, .int .i64 (-1074), .int .i64 1024, .int .i64 9218868437227405312, .int .i64 (-9223372036854775808), .int .i64 9221120237041090561] else .agg #[.int .i64 32, .int .i64 24, .int .i64 8388608, .int .i64 255, .int .i64 (-149), .int .i64 128, .int .i64 2139095040, .int .i64 2147483648, .int .i64 2143289345]
theorem of_knd (n : Int) (hn : n = 64 ∨ n = 32) (w : World) : Calls Tryz.prog 84 #[.int .i64 n] w fun e w' => e = .returned (.tuple #[knd n, .bool true]) ∧ Kept w w' := by
 rcases hn with rfl | rfl
 ·exact of_64 w
 ·exact of_32 w
theorem knd_is (n : Int) (hn : n = 64 ∨ n = 32) : ∃ k0 p k2 k3 k4 k5 k6 k7 k8 : Int, knd n = .agg #[.int .i64 k0, .int .i64 p, .int .i64 k2, .int .i64 k3, .int .i64 k4, .int .i64 k5, .int .i64 k6, .int .i64 k7, .int .i64 k8] := by
 rcases hn with rfl | rfl
 ·exact ⟨_, _, _, _, _, _, _, _, _, rfl⟩
 ·exact ⟨_, _, _, _, _, _, _, _, _, rfl⟩
theorem rfirst_no (n way : Int) (ok : Bool) (hn : ¬ (n = 64 ∨ n = 32)) (w : World) : Calls Tryz.prog 43 #[.int .i64 n, .int .i64 way, .bool ok] w fun e w' => e = .returned (.int .i64 3) ∧ Kept w w' := by
 have KO : Hid (∀ u, Calls Tryz.prog 84 #[.int .i64 n] u fun e w' => e = .returned (.tuple #[.agg #[.int .i64 0, .int .i64 0, .int .i64 0, .int .i64 0, .int .i64 0, .int .i64 0, .int .i64 0, .int .i64 0, .int .i64 0], .bool false]) ∧ Kept u w') := fun u => of_0 n (by simp; omega) (by simp; omega) u
 go_enter Tryz.func43, Tryz.ntmps43
 go_wp2_with (first | (go_at_call 84; refine (KO.out _).mono ?_; rintro e w1 ⟨rfl, hk1⟩))
 go_ret
 exact ⟨rfl, hk1.alloc _ _⟩
theorem rfirst_ok (n way : Int) (ok : Bool) (hn : n = 64 ∨ n = 32) (f : Int) (hf : f = FE n way ok) (w : World) : Calls Tryz.prog 43 #[.int .i64 n, .int .i64 way, .bool ok] w fun e w' => e = .returned (.int .i64 f) ∧ Kept w w' := by
 obtain ⟨k0, p, k2, k3, k4, k5, k6, k7, k8, hk⟩ := knd_is n hn
 have KO : Hid (∀ u, Calls Tryz.prog 84 #[.int .i64 n] u fun e w' => e = .returned (.tuple #[.agg #[.int .i64 k0, .int .i64 p, .int .i64 k2, .int .i64 k3, .int .i64 k4, .int .i64 k5, .int .i64 k6, .int .i64 k7, .int .i64 k8], .bool true]) ∧ Kept u w') := fun u => by
  have := of_knd n hn u
  rw [hk] at this
  exact this
 unfold FE at hf
 rw [if_pos hn] at hf
 by_cases h : 0 ≤ way ∧ way ≤ 2
 ·have KW : Hid (∀ u, Calls Tryz.prog 85 #[.int .i64 way] u fun e w' => e = .returned (.bool true) ∧ Kept u w') := fun u => by
   have := rway_any way u
   rw [decide_eq_true h] at this
   exact this
  rw [if_neg (by omega)] at hf
  cases ok with
  | true =>
   rw [if_pos rfl] at hf
   subst hf
   go_enter Tryz.func43, Tryz.ntmps43
   go_wp2_with (first | (go_at_call 84; refine (KO.out _).mono ?_; rintro e w1 ⟨rfl, hk1⟩) | (go_at_call 85; refine (KW.out _).mono ?_; rintro e w2 ⟨rfl, hk2⟩))
   go_ret
   exact ⟨rfl, (hk1.alloc _ _).trans hk2⟩
  | false =>
   rw [if_neg (by decide)] at hf
   subst hf
   go_enter Tryz.func43, Tryz.ntmps43
   go_wp2_with (first | (go_at_call 84; refine (KO.out _).mono ?_; rintro e w1 ⟨rfl, hk1⟩) | (go_at_call 85; refine (KW.out _).mono ?_; rintro e w2 ⟨rfl, hk2⟩))
   go_ret
   exact ⟨rfl, (hk1.alloc _ _).trans hk2⟩
 ·have KW : Hid (∀ u, Calls Tryz.prog 85 #[.int .i64 way] u fun e w' => e = .returned (.bool false) ∧ Kept u w') := fun u => by
   have := rway_any way u
   rw [decide_eq_false h] at this
   exact this
  rw [if_pos (by omega)] at hf
  subst hf
  go_enter Tryz.func43, Tryz.ntmps43
  go_wp2_with (first | (go_at_call 84; refine (KO.out _).mono ?_; rintro e w1 ⟨rfl, hk1⟩) | (go_at_call 85; refine (KW.out _).mono ?_; rintro e w2 ⟨rfl, hk2⟩))
  go_ret
  exact ⟨rfl, (hk1.alloc _ _).trans hk2⟩
theorem rfirst_any (n way : Int) (ok : Bool) (w : World) : Calls Tryz.prog 43 #[.int .i64 n, .int .i64 way, .bool ok] w fun e w' => e = .returned (.int .i64 (FE n way ok)) ∧ Kept w w' := by
 by_cases hn : n = 64 ∨ n = 32
 ·exact rfirst_ok n way ok hn _ rfl w
 ·have := rfirst_no n way ok hn w
  unfold FE
  rw [if_neg hn]
  exact this
theorem ref2round (n way : Int) (hn : n = 64 ∨ n = 32) (ng : Bool) (ao : Option Addr) (ln c : Nat) (x b : Int) (od : Bool) (w : World) (KT : Hid (∀ u, Kept w u → Calls Tryz.prog 86 #[knd n, .agg #[.bool ng, .slice ao ln c, .int .i64 x], .int .i64 way] u fun e w' => e = .returned (.tuple #[.int .i64 b, .bool od]) ∧ Kept u w')) : Calls Tryz.prog 44 #[.agg #[.bool ng, .slice ao ln c, .int .i64 x], .int .i64 n, .int .i64 way] w fun e w' => e = .returned (.tuple #[.int .i64 b, .bool od]) ∧ Kept w w' := by
 obtain ⟨k0, p, k2, k3, k4, k5, k6, k7, k8, hk⟩ := knd_is n hn
 have KO : Hid (∀ u, Calls Tryz.prog 84 #[.int .i64 n] u fun e w' => e = .returned (.tuple #[.agg #[.int .i64 k0, .int .i64 p, .int .i64 k2, .int .i64 k3, .int .i64 k4, .int .i64 k5, .int .i64 k6, .int .i64 k7, .int .i64 k8], .bool true]) ∧ Kept u w') := fun u => by
  have := of_knd n hn u
  rw [hk] at this
  exact this
 rw [hk] at KT
 have hK : Kept w (w.alloc (.cells #[.bool ng, .slice ao ln c, .int .i64 x] 29)) := (Kept.refl w).alloc _ _
 go_enter Tryz.func44, Tryz.ntmps44
 go_wp2_with fail
 refine (KO.out _).mono ?_
 rintro e w1 ⟨rfl, hk1⟩
 have hk2 := hk1.alloc #[.int .i64 k0, .int .i64 p, .int .i64 k2, .int .i64 k3, .int .i64 k4, .int .i64 k5, .int .i64 k6, .int .i64 k7, .int .i64 k8] 104
 have hb : w.heap.size < (w.alloc (.cells #[.bool ng, .slice ao ln c, .int .i64 x] 29)).heap.size := by simp
 have q0 := (hk2.below.cell (p := ⟨w.heap.size, 0, none⟩) hb).trans (show _ = some (.bool ng) by simp [go_sem])
 have q1 := (hk2.below.cell (p := ⟨w.heap.size, 1, none⟩) hb).trans (show _ = some (.slice ao ln c) by simp [go_sem])
 have q2 := (hk2.below.cell (p := ⟨w.heap.size, 2, none⟩) hb).trans (show _ = some (.int .i64 x) by simp [go_sem])
 clear hb
 go_wp2_with fail
 refine (KT.out _ (hK.trans hk2)).mono ?_
 rintro e w2 ⟨rfl, hk3⟩
 go_wp2_with fail
 go_ret2
 exact ⟨rfl, hK.trans (hk2.trans hk3)⟩
theorem ref2root (n way : Int) (hn : n = 64 ∨ n = 32) (ng : Bool) (ao : Option Addr) (ln c : Nat) (x b : Int) (od : Bool) (w : World) (KT : Hid (∀ u, Kept w u → Calls Tryz.prog 88 #[knd n, .agg #[.bool ng, .slice ao ln c, .int .i64 x], .int .i64 way] u fun e w' => e = .returned (.tuple #[.int .i64 b, .bool od]) ∧ Kept u w')) : Calls Tryz.prog 47 #[.agg #[.bool ng, .slice ao ln c, .int .i64 x], .int .i64 n, .int .i64 way] w fun e w' => e = .returned (.tuple #[.int .i64 b, .bool od]) ∧ Kept w w' := by
 obtain ⟨k0, p, k2, k3, k4, k5, k6, k7, k8, hk⟩ := knd_is n hn
 have KO : Hid (∀ u, Calls Tryz.prog 84 #[.int .i64 n] u fun e w' => e = .returned (.tuple #[.agg #[.int .i64 k0, .int .i64 p, .int .i64 k2, .int .i64 k3, .int .i64 k4, .int .i64 k5, .int .i64 k6, .int .i64 k7, .int .i64 k8], .bool true]) ∧ Kept u w') := fun u => by
  have := of_knd n hn u
  rw [hk] at this
  exact this
 rw [hk] at KT
 have hK : Kept w (w.alloc (.cells #[.bool ng, .slice ao ln c, .int .i64 x] 29)) := (Kept.refl w).alloc _ _
 go_enter Tryz.func47, Tryz.ntmps47
 go_wp2_with fail
 refine (KO.out _).mono ?_
 rintro e w1 ⟨rfl, hk1⟩
 have hk2 := hk1.alloc #[.int .i64 k0, .int .i64 p, .int .i64 k2, .int .i64 k3, .int .i64 k4, .int .i64 k5, .int .i64 k6, .int .i64 k7, .int .i64 k8] 104
 have hb : w.heap.size < (w.alloc (.cells #[.bool ng, .slice ao ln c, .int .i64 x] 29)).heap.size := by simp
 have q0 := (hk2.below.cell (p := ⟨w.heap.size, 0, none⟩) hb).trans (show _ = some (.bool ng) by simp [go_sem])
 have q1 := (hk2.below.cell (p := ⟨w.heap.size, 1, none⟩) hb).trans (show _ = some (.slice ao ln c) by simp [go_sem])
 have q2 := (hk2.below.cell (p := ⟨w.heap.size, 2, none⟩) hb).trans (show _ = some (.int .i64 x) by simp [go_sem])
 clear hb
 go_wp2_with fail
 refine (KT.out _ (hK.trans hk2)).mono ?_
 rintro e w2 ⟨rfl, hk3⟩
 go_wp2_with fail
 go_ret2
 exact ⟨rfl, hK.trans (hk2.trans hk3)⟩
theorem ref2quot (n way : Int) (hn : n = 64 ∨ n = 32) (n1 n2 : Bool) (a1 a2 : Option Addr) (l1 c1 l2 c2 : Nat) (x1 x2 b : Int) (od : Bool) (w : World) (KT : Hid (∀ u, Kept w u → Calls Tryz.prog 87 #[knd n, .agg #[.bool n1, .slice a1 l1 c1, .int .i64 x1], .agg #[.bool n2, .slice a2 l2 c2, .int .i64 x2], .int .i64 way] u fun e w' => e = .returned (.tuple #[.int .i64 b, .bool od]) ∧ Kept u w')) : Calls Tryz.prog 46 #[.agg #[.bool n1, .slice a1 l1 c1, .int .i64 x1], .agg #[.bool n2, .slice a2 l2 c2, .int .i64 x2], .int .i64 n, .int .i64 way] w fun e w' => e = .returned (.tuple #[.int .i64 b, .bool od]) ∧ Kept w w' := by
 obtain ⟨k0, p, k2, k3, k4, k5, k6, k7, k8, hk⟩ := knd_is n hn
 have KO : Hid (∀ u, Calls Tryz.prog 84 #[.int .i64 n] u fun e w' => e = .returned (.tuple #[.agg #[.int .i64 k0, .int .i64 p, .int .i64 k2, .int .i64 k3, .int .i64 k4, .int .i64 k5, .int .i64 k6, .int .i64 k7, .int .i64 k8], .bool true]) ∧ Kept u w') := fun u => by
  have := of_knd n hn u
  rw [hk] at this
  exact this
 rw [hk] at KT
 obtain ⟨X, hX⟩ : ∃ X, X = (w.alloc (.cells #[.bool n1, .slice a1 l1 c1, .int .i64 x1] 29)).alloc (.cells #[.bool n2, .slice a2 l2 c2, .int .i64 x2] 29) := ⟨_, rfl⟩
 have hK : Kept w X := by rw [hX]; exact ((Kept.refl w).alloc _ _).alloc _ _
 have HQ : Hid (∀ u, Kept X u → (u.cell? ⟨w.heap.size, 0, none⟩ = some (.bool n1) ∧ u.cell? ⟨w.heap.size, 1, none⟩ = some (.slice a1 l1 c1) ∧ u.cell? ⟨w.heap.size, 2, none⟩ = some (.int .i64 x1)) ∧ u.cell? ⟨w.heap.size + 1, 0, none⟩ = some (.bool n2) ∧ u.cell? ⟨w.heap.size + 1, 1, none⟩ = some (.slice a2 l2 c2) ∧ u.cell? ⟨w.heap.size + 1, 2, none⟩ = some (.int .i64 x2)) := fun u k => by
  have hb0 : w.heap.size < X.heap.size := by rw [hX]; simp [go_sem]
  have hb1 : w.heap.size + 1 < X.heap.size := by rw [hX]; simp
  refine ⟨⟨(k.below.cell (p := ⟨w.heap.size, 0, none⟩) hb0).trans ?_, (k.below.cell (p := ⟨w.heap.size, 1, none⟩) hb0).trans ?_, (k.below.cell (p := ⟨w.heap.size, 2, none⟩) hb0).trans ?_⟩, (k.below.cell (p := ⟨w.heap.size + 1, 0, none⟩) hb1).trans ?_, (k.below.cell (p := ⟨w.heap.size + 1, 1, none⟩) hb1).trans ?_, (k.below.cell (p := ⟨w.heap.size + 1, 2, none⟩) hb1).trans ?_⟩
  all_goals
   rw [hX]
   simp [go_sem]
 go_enter Tryz.func46, Tryz.ntmps46
 go_upto_region 1 with fail
 rw [← hX]
 clear hX
 go_wp2_with fail
 refine (KO.out _).mono ?_
 rintro e w1 ⟨rfl, hk1⟩
 have hk2 := hk1.alloc #[.int .i64 k0, .int .i64 p, .int .i64 k2, .int .i64 k3, .int .i64 k4, .int .i64 k5, .int .i64 k6, .int .i64 k7, .int .i64 k8] 104
 obtain ⟨⟨q0, q1, q2⟩, q3, q4, q5⟩ := HQ.out _ hk2
 go_wp2_with fail
 refine (KT.out _ (hK.trans hk2)).mono ?_
 rintro e w2 ⟨rfl, hk3⟩
 go_wp2_with fail
 go_ret2
 exact ⟨rfl, hK.trans (hk2.trans hk3)⟩
theorem told_pz_64 (ng : Bool) (M : Nat) (hM : M ≤ 9218868437227405312) : (if (if ng = true then (-9223372036854775808 : Int) else 0) + (M : Int) = -9223372036854775808 then 0 else (if ng = true then (-9223372036854775808 : Int) else 0) + (M : Int)) = pz 64 (kyz ng M) := by
 unfold pz kyz
 cases ng
 ·simp only [Bool.false_eq_true, if_false, if_true]
  (repeat' split) <;> first | omega | (exfalso; simp_all; done)
 ·simp only [if_true]
  (repeat' split) <;> first | omega | (exfalso; simp_all; done)
theorem told_pz_32 (ng : Bool) (M : Nat) (hM : M ≤ 2139095040) : (if (if ng = true then (2147483648 : Int) else 0) + (M : Int) = 2147483648 then 0 else (if ng = true then (2147483648 : Int) else 0) + (M : Int)) = pz 32 (kyz ng M) := by
 unfold pz kyz
 cases ng
 ·simp only [Bool.false_eq_true, if_false, if_true]
  (repeat' split) <;> first | omega | (exfalso; simp_all; done)
 ·simp only [if_true]
  (repeat' split) <;> first | omega | (exfalso; simp_all; done)
theorem msq (a b : Nat) : (a * b) * (a * b) = (a * a) * (b * b) := Nat.mul_mul_mul_comm a b a b
theorem shl_len2 (A s z : Nat) (h : s ≤ 30 * z) : (digs (A * 2 ^ s)).length ≤ (digs A).length + z := by
 have h1 := digs_lt A _ (Nat.le_refl (digs A).length)
 have h2 : 2 ^ s ≤ 2 ^ (30 * z) := Nat.pow_le_pow_right (by omega) h
 have h3 : A * 2 ^ s < 2 ^ (30 * ((digs A).length + z)) := by
  rw [Nat.mul_add, Nat.pow_add]
  exact Nat.mul_lt_mul_of_lt_of_le h1 h2 (Nat.two_pow_pos _)
 exact digs_length_le _ _ h3
theorem bl_bound (r : Nm) (hv : vld r = true) (hne : r.mag ≠ []) : bl (nv r.mag) ≤ 60000 := by
 obtain ⟨hd, h0, hl, hx1, hx2⟩ := vld_digs r hv hne
 have := bl_le (nv r.mag) (30 * (digs (nv r.mag)).length) (digs_lt (nv r.mag) _ (Nat.le_refl _))
 rw [hd] at this
 omega
theorem kmax (n : Int) (hn : n = 64 ∨ n = 32) : kprec n ≤ 53 ∧ 24 ≤ kprec n ∧ -1074 ≤ kleast n ∧ kleast n ≤ -149 := by
 rcases hn with rfl | rfl <;> decide
theorem quot_both (n way : Int) (hn : n = 64 ∨ n = 32) (hw : way = 0 ∨ way = 1 ∨ way = 2) (a b : Nm) (ha : vld a = true) (hb : vld b = true) (ham : a.mag ≠ []) (hbm : b.mag ≠ []) : ∃ (q : Int) (o : Bool), (∀ (a1 a2 : Option Addr) (c1 c2 : Nat) (w : World), Tab w → Sl w (.slice a1 a.mag.length c1) a.mag → Sl w (.slice a2 b.mag.length c2) b.mag → Calls Tryz.prog 41 #[.agg #[.bool a.neg, .slice a1 a.mag.length c1, .int .i64 a.exp], .agg #[.bool b.neg, .slice a2 b.mag.length c2, .int .i64 b.exp], .int .i64 n, .int .i64 way] w fun e w' => e = .returned (.tuple #[.int .i64 q, .bool o, .int .i64 0]) ∧ Kept w w') ∧ (∀ (va vb : Value) (w : World), RL w va a.mag → RL w vb b.mag → Calls Tryz.prog 87 #[knd n, .agg #[.bool a.neg, va, .int .i64 a.exp], .agg #[.bool b.neg, vb, .int .i64 b.exp], .int .i64 way] w fun e w' => e = .returned (.tuple #[.int .i64 q, .bool o]) ∧ Kept w w') := by
 obtain ⟨da, a0, la, xa1, xa2⟩ := vld_digs a ha ham
 obtain ⟨db, b0, lb, xb1, xb2⟩ := vld_digs b hb hbm
 have hTa := bl_bound a ha ham
 have hTb := bl_bound b hb hbm
 obtain ⟨pm1, pm2, pm3, pm4⟩ := kmax n hn
 obtain ⟨sh, hsh⟩ : ∃ sh : Nat, (sh : Int) = max 0 ((bl (nv b.mag) : Int) - (bl (nv a.mag) : Int) + kprec n + 2) := ⟨(max 0 ((bl (nv b.mag) : Int) - (bl (nv a.mag) : Int) + kprec n + 2)).toNat, by omega⟩
 obtain ⟨k, Q, H, F, od, hf, rt, hC, hP⟩ := quotz_all n hn a b ha hb ham hbm (-5000000) (by omega) (by omega) (by omega) (by unfold qex; omega) (by omega)
 obtain ⟨e, he⟩ : ∃ e, e = a.exp - b.exp - sh := ⟨_, rfl⟩
 obtain ⟨u, hu⟩ : ∃ u, unz (kprec n).toNat (kleast n) (bl (nv a.mag * 2 ^ sh / nv b.mag)) e = u := ⟨_, rfl⟩
 obtain ⟨k', hk'⟩ : ∃ k', flo (nv a.mag * 2 ^ sh / nv b.mag) (e - u) = k' := ⟨_, rfl⟩
 obtain ⟨F', hF'⟩ : ∃ F', F' = (u - kleast n).toNat * cbn n + k' := ⟨_, rfl⟩
 obtain ⟨Q', H', hD⟩ := quot_cutz n hn (nv a.mag) (nv b.mag) a0 b0 a.exp b.exp (-5000000) e sh (by omega) he (by omega) (by omega) (by omega) u hu k' F' hk' hF'
 have hS := cutz_same hC hD (rv_lt n hn) way hw (a.neg != b.neg) (ifn n)
 refine ⟨_, _, fun a1 a2 c1 c2 w hT h1 h2 => hP way hw a1 a2 c1 c2 w hT h1 h2, fun va vb w h1 h2 => ?_⟩
 rw [hS.1, hS.2]
 obtain ⟨p1, -, -⟩ := kp_toNat n hn
 have hq := quot_bits (nv a.mag) (nv b.mag) sh (kprec n).toNat a0 b0 (by omega)
 have hq0 : nv a.mag * 2 ^ sh / nv b.mag ≠ 0 := by
  intro h0
  rw [h0, bl_zero] at hq
  omega
 have hl1 := shl_len2 (nv a.mag) sh 5000 (by omega)
 have hl2 := digs_len_le (nv a.mag * 2 ^ sh / nv b.mag) (nv a.mag * 2 ^ sh) (Nat.div_le_self _ _)
 rw [← da] at h1 la
 rw [← db] at h2 lb
 have hM := mgz_le way (a.neg != b.neg) (ifn n) F' (decide (k' % 2 = 1)) (decide (flo (nv a.mag * 2 ^ sh / nv b.mag) (e - u + 1) % 2 = 1)) (decide (nv a.mag * 2 ^ sh % nv b.mag ≠ 0) || rst (nv a.mag * 2 ^ sh / nv b.mag) (e - u + 1))
 rcases hn with rfl | rfl
 ·refine rQuot_any 64 53 4503599627370496 2047 (-1074) 1024 9218868437227405312 (-9223372036854775808) 9221120237041090561 (by decide) (nv a.mag) (nv b.mag) a0 b0 a.neg b.neg a.exp b.exp ⟨xa1, xa2⟩ ⟨xb1, xb2⟩ va vb w h1 h2 la lb sh hsh way ((if (a.neg != b.neg) = true then (-9223372036854775808 : Int) else 0) + (mgz way (a.neg != b.neg) (ifn 64) F' (decide (k' % 2 = 1)) (decide (flo (nv a.mag * 2 ^ sh / nv b.mag) (e - u + 1) % 2 = 1)) (decide (nv a.mag * 2 ^ sh % nv b.mag ≠ 0) || rst (nv a.mag * 2 ^ sh / nv b.mag) (e - u + 1)) : Nat)) _ _ (fun v r1 hr => ?_) (fun v => ?_)
  ·rw [← he]
   exact rcut_64 way hw (a.neg != b.neg) _ hq0 e _ r1 v hr (by omega) (by omega) (by omega) u hu k' hk' F' hF' _ _ _ rfl rfl rfl _ rfl
  ·have := rtold_64 ((if (a.neg != b.neg) = true then (-9223372036854775808 : Int) else 0) + (mgz way (a.neg != b.neg) (ifn 64) F' (decide (k' % 2 = 1)) (decide (flo (nv a.mag * 2 ^ sh / nv b.mag) (e - u + 1) % 2 = 1)) (decide (nv a.mag * 2 ^ sh % nv b.mag ≠ 0) || rst (nv a.mag * 2 ^ sh / nv b.mag) (e - u + 1)) : Nat)) (odz way (a.neg != b.neg) (ifn 64) F' (decide (k' % 2 = 1)) (decide (flo (nv a.mag * 2 ^ sh / nv b.mag) (e - u + 1) % 2 = 1)) (decide (nv a.mag * 2 ^ sh % nv b.mag ≠ 0) || rst (nv a.mag * 2 ^ sh / nv b.mag) (e - u + 1))) v
   rw [told_pz_64 _ _ hM] at this
   exact this
 ·refine rQuot_any 32 24 8388608 255 (-149) 128 2139095040 2147483648 2143289345 (by decide) (nv a.mag) (nv b.mag) a0 b0 a.neg b.neg a.exp b.exp ⟨xa1, xa2⟩ ⟨xb1, xb2⟩ va vb w h1 h2 la lb sh hsh way ((if (a.neg != b.neg) = true then (2147483648 : Int) else 0) + (mgz way (a.neg != b.neg) (ifn 32) F' (decide (k' % 2 = 1)) (decide (flo (nv a.mag * 2 ^ sh / nv b.mag) (e - u + 1) % 2 = 1)) (decide (nv a.mag * 2 ^ sh % nv b.mag ≠ 0) || rst (nv a.mag * 2 ^ sh / nv b.mag) (e - u + 1)) : Nat)) _ _ (fun v r1 hr => ?_) (fun v => ?_)
  ·rw [← he]
   exact rcut_32 way hw (a.neg != b.neg) _ hq0 e _ r1 v hr (by omega) (by omega) (by omega) u hu k' hk' F' hF' _ _ _ rfl rfl rfl _ rfl
  ·have := rtold_32 ((if (a.neg != b.neg) = true then (2147483648 : Int) else 0) + (mgz way (a.neg != b.neg) (ifn 32) F' (decide (k' % 2 = 1)) (decide (flo (nv a.mag * 2 ^ sh / nv b.mag) (e - u + 1) % 2 = 1)) (decide (nv a.mag * 2 ^ sh % nv b.mag ≠ 0) || rst (nv a.mag * 2 ^ sh / nv b.mag) (e - u + 1)) : Nat)) (odz way (a.neg != b.neg) (ifn 32) F' (decide (k' % 2 = 1)) (decide (flo (nv a.mag * 2 ^ sh / nv b.mag) (e - u + 1) % 2 = 1)) (decide (nv a.mag * 2 ^ sh % nv b.mag ≠ 0) || rst (nv a.mag * 2 ^ sh / nv b.mag) (e - u + 1))) v
   rw [told_pz_32 _ _ hM] at this
   exact this
/- the program's root: its lead, of the fine root -/
theorem root_prog (v : Nat) (x s la ex : Int) (h l : Nat) (hodd : v % 2 = 1) (hR : Rtz (flo v (x - la)) h l) (hla : la = 2 * ex) (hs1 : 2 * s ≤ x) (hs2 : s ≤ ex) : (h * 2 ^ (ex - s).toNat) * (h * 2 ^ (ex - s).toNat) ≤ v * 2 ^ (x - 2 * s).toNat ∧ v * 2 ^ (x - 2 * s).toNat < ((h + 1) * 2 ^ (ex - s).toNat) * ((h + 1) * 2 ^ (ex - s).toNat) ∧ (decide (l ≠ 0) || decide (x < la)) = decide (v * 2 ^ (x - 2 * s).toNat ≠ (h * 2 ^ (ex - s).toNat) * (h * 2 ^ (ex - s).toNat)) := by
 have hA := flo_at v x la (2 * s) hs1 (by omega)
 obtain ⟨Q, hQ⟩ : ∃ Q, 2 ^ (la - 2 * s).toNat = Q := ⟨_, rfl⟩
 have hQp : 0 < Q := by rw [← hQ]; exact Nat.two_pow_pos _
 have hQ2 : 2 ^ (ex - s).toNat * 2 ^ (ex - s).toNat = Q := by
  rw [← Nat.pow_add, ← hQ]; congr 1; omega
 have hVQ : x < la → v * 2 ^ (x - 2 * s).toNat % Q ≠ 0 := by
  intro hlt
  rw [← hQ, show (la - 2 * s).toNat = (x - 2 * s).toNat + (la - x).toNat by omega, Nat.pow_add, Nat.mul_comm v, Nat.mul_mod_mul_left]
  have hp := Nat.two_pow_pos (x - 2 * s).toNat
  obtain ⟨j, hj⟩ : ∃ j : Nat, (la - x).toNat = j + 1 := ⟨(la - x).toNat - 1, by omega⟩
  rw [hj]
  have h2 : v % 2 ^ (j + 1) % 2 = 1 := by
   rw [Nat.mod_mod_of_dvd _ (by rw [Nat.pow_succ]; exact Nat.dvd_mul_left _ _)]
   exact hodd
  intro h0
  rcases Nat.mul_eq_zero.1 h0 with h0 | h0
  ·omega
  ·rw [h0] at h2; simp at h2
 have hVQ2 : ¬ x < la → v * 2 ^ (x - 2 * s).toNat % Q = 0 := by
  intro hlt
  rw [← hQ, show (x - 2 * s).toNat = (x - la).toNat + (la - 2 * s).toNat by omega, Nat.pow_add, ← Nat.mul_assoc, Nat.mul_mod_left]
 rw [msq h, msq (h + 1), hQ2]
 rw [hQ] at hA
 generalize v * 2 ^ (x - 2 * s).toNat = T at *
 have hdm := Nat.div_add_mod T Q
 have hml : T % Q < Q := Nat.mod_lt _ hQp
 rw [← hA] at hdm
 have heq := hR.eq
 obtain ⟨b1, b2⟩ := hR.lt
 have c1 : h * h * Q ≤ flo v (x - la) * Q := Nat.mul_le_mul_right _ b1
 have c2 : (flo v (x - la) + 1) * Q ≤ (h + 1) * (h + 1) * Q := Nat.mul_le_mul_right _ b2
 have c3 : h * h * Q + l * Q = flo v (x - la) * Q := by rw [← Nat.add_mul, heq]
 rw [Nat.add_mul, Nat.one_mul] at c2
 rw [Nat.mul_comm] at hdm
 refine ⟨by omega, by omega, ?_⟩
 rw [← Bool.decide_or]
 congr 1
 apply propext
 constructor
 ·rintro (h1 | h1)
  ·have : Q ≤ l * Q := Nat.le_mul_of_pos_left _ (by omega)
   omega
  ·have := hVQ h1
   have := Nat.zero_le (l * Q)
   omega
 ·intro hne
  apply Decidable.byContradiction
  intro hn
  have n1 : l = 0 := by omega
  have n2 := hVQ2 (by omega)
  rw [n1] at c3
  omega
theorem root_bits (V q p : Nat) (h : 2 * p + 4 ≤ bl V) (hV : V ≠ 0) (hq : V < (q + 1) * (q + 1)) : p + 2 ≤ bl q := by
 obtain ⟨b1, b2, b3⟩ := bl_pos V hV
 have h1 : 2 ^ (p + 1) * 2 ^ (p + 1) ≤ V := by
  rw [← Nat.pow_add]
  exact Nat.le_trans (Nat.pow_le_pow_right (by decide) (by omega)) b1
 have h2 := sq_lt (Nat.lt_of_le_of_lt h1 hq)
 have hp := Nat.two_pow_pos (p + 1)
 obtain ⟨q1, q2, q3⟩ := bl_pos q (by omega)
 have := (Nat.pow_lt_pow_iff_right (by decide : 1 < 2)).1 (Nat.lt_of_le_of_lt (show 2 ^ (p + 1) ≤ q by omega) q2)
 omega
theorem root_both (n way : Int) (hn : n = 64 ∨ n = 32) (hw : way = 0 ∨ way = 1 ∨ way = 2) (a : Nm) (ha : vld a = true) (hng : a.neg = false) (ham : a.mag ≠ []) : ∃ (q : Int) (o : Bool), (∀ (a1 : Option Addr) (c1 : Nat) (w : World), Tab w → Sl w (.slice a1 a.mag.length c1) a.mag → Calls Tryz.prog 42 #[.agg #[.bool false, .slice a1 a.mag.length c1, .int .i64 a.exp], .int .i64 n, .int .i64 way] w fun e w' => e = .returned (.tuple #[.int .i64 q, .bool o, .int .i64 0]) ∧ Kept w w') ∧ (∀ (va : Value) (w : World), RL w va a.mag → Calls Tryz.prog 88 #[knd n, .agg #[.bool false, va, .int .i64 a.exp], .int .i64 way] w fun e w' => e = .returned (.tuple #[.int .i64 q, .bool o]) ∧ Kept w w') := by
 obtain ⟨da, a0, la, xa1, xa2⟩ := vld_digs a ha ham
 have hTa := bl_bound a ha ham
 obtain ⟨pm1, pm2, pm3, pm4⟩ := kmax n hn
 obtain ⟨p1, -, -⟩ := kp_toNat n hn
 obtain ⟨b1, b2, b3⟩ := bl_pos (nv a.mag) a0
 obtain ⟨v1, v2, v3, v4, v5, v6⟩ := vld_some a.neg a.mag a.exp ham ha
 have hodd := nv_odd a.mag v2 v4
 obtain ⟨h, l, rs, un, m, k, F, hR, hLd, hP⟩ := rootz_all n hn a ha hng ham
 obtain ⟨x, hx⟩ : ∃ x, a.exp = x := ⟨_, rfl⟩
 obtain ⟨V, hV⟩ : ∃ V, nv a.mag = V := ⟨_, rfl⟩
 obtain ⟨T, hT⟩ : ∃ T, V * 2 ^ (x - 2 * (-2000000)).toNat = T := ⟨_, rfl⟩
 obtain ⟨G, lG, hG⟩ := rtz_ex T
 obtain ⟨g1, g2⟩ := hG.lt
 -- the program
 have hrt := hR.rt
 have hev := hR.even
 have hrs := hR.rs
 have hla2 : rlast a = a.exp + (bl (nv a.mag) : Int) - 1 - (a.exp + (bl (nv a.mag) : Int) - 1) % 2 - 110 := rfl
 obtain ⟨ex, hex⟩ : ∃ ex, rlast a / 2 = ex := ⟨_, rfl⟩
 rw [hex] at hLd
 have hlae : rlast a = 2 * ex := by omega
 rw [hx, hV] at hrt
 rw [hx] at hrs
 rw [hV] at hodd
 obtain ⟨r1, r2, r3⟩ := root_prog V x (-2000000) (rlast a) ex h l hodd hrt hlae (by omega) (by omega)
 rw [hT] at r1 r2 r3
 obtain ⟨s1, s2⟩ := root_lead T G h (2 ^ (ex - (-2000000)).toNat) (Nat.two_pow_pos _) g1 g2 r1 r2
 obtain ⟨u1, u2, u3⟩ := ld_bounds hn hLd hR.low hR.high (by decide)
 obtain ⟨c1, c2⟩ := cbn_pow n hn
 have hcp : 0 < cbn n := by rw [c1]; exact Nat.two_pow_pos _
 have hce : cbn n % 2 = 0 := by rcases hn with rfl | rfl <;> rfl
 have hC := cutz_lead (cbn n) (2 * 2 ^ (kleast n - (-2000000)).toNat) (rtv T G) (2 * 2 ^ (ex - (-2000000)).toNat) h rs (un - kleast n).toNat m k F hcp hce (Nat.mul_pos (by decide) (Nat.two_pow_pos _)) s1 (by rw [hrs, r3, s2]) hLd.hk hLd.hF u2 (by rcases u3 with h | h; left; omega; right; exact h) (by
  have e1 := hLd.hm
  rw [Nat.mul_assoc, ← Nat.pow_add, Nat.mul_left_comm, ← Nat.pow_add]
  congr 2
  omega)
 -- the document
 obtain ⟨s0, hs0⟩ : ∃ s0 : Nat, (s0 : Int) = max 0 (2 * kprec n + 4 - (bl V : Int)) := ⟨(max 0 (2 * kprec n + 4 - (bl V : Int))).toNat, by omega⟩
 obtain ⟨sh, e, hs, he⟩ : ∃ (sh : Nat) (e : Int), (((x - s0) % 2 = 0 ∧ sh = s0) ∨ ((x - s0) % 2 = 1 ∧ sh = s0 + 1)) ∧ x - sh = 2 * e := by
  by_cases h2 : (x - (s0 : Int)) % 2 = 0
  ·exact ⟨s0, (x - s0) / 2, Or.inl ⟨h2, rfl⟩, by omega⟩
  ·exact ⟨s0 + 1, (x - s0 - 1) / 2, Or.inr ⟨by omega, rfl⟩, by omega⟩
 obtain ⟨q, lq, hq⟩ := rtz_ex (V * 2 ^ sh)
 obtain ⟨q1, q2⟩ := hq.lt
 have hTW : T = V * 2 ^ sh * (2 ^ (e - (-2000000)).toNat * 2 ^ (e - (-2000000)).toNat) := by
  rw [← hT, Nat.mul_assoc, ← Nat.pow_add, ← Nat.pow_add]; congr 2; omega
 have hWp : 0 < 2 ^ (e - (-2000000)).toNat * 2 ^ (e - (-2000000)).toNat := Nat.mul_pos (Nat.two_pow_pos _) (Nat.two_pow_pos _)
 obtain ⟨t1, t2⟩ := root_lead T G q (2 ^ (e - (-2000000)).toNat) (Nat.two_pow_pos _) g1 g2 (by rw [hTW, msq]; exact Nat.mul_le_mul_right _ q1) (by rw [hTW, msq]; exact Nat.mul_lt_mul_of_pos_right q2 hWp)
 have hmore : decide (V * 2 ^ sh ≠ q * q) = decide (rtv T G % (2 * 2 ^ (e - (-2000000)).toNat) ≠ 0) := by
  rw [← t2, hTW, msq]
  apply decide_eq_decide.2
  constructor
  ·intro g h0
   exact g (Nat.eq_of_mul_eq_mul_right hWp h0)
  ·intro g h0
   rw [h0] at g
   exact g rfl
 have hVs : V * 2 ^ sh ≠ 0 := Nat.mul_ne_zero (by rw [← hV]; exact a0) (Nat.ne_of_gt (Nat.two_pow_pos _))
 have hblV : bl (V * 2 ^ sh) = bl V + sh := bl_mul V sh (by rw [← hV]; exact a0)
 have hqb := root_bits (V * 2 ^ sh) q (kprec n).toNat (by rw [hblV]; omega) hVs q2
 obtain ⟨u, hu⟩ : ∃ u, unz (kprec n).toNat (kleast n) (bl q) e = u := ⟨_, rfl⟩
 obtain ⟨k', hk'⟩ : ∃ k', flo q (e - u) = k' := ⟨_, rfl⟩
 obtain ⟨F', hF'⟩ : ∃ F', F' = (u - kleast n).toNat * cbn n + k' := ⟨_, rfl⟩
 have hlu : kleast n ≤ u := by unfold unz at hu; omega
 have hue : e + 1 ≤ u := by unfold unz at hu; omega
 have hV60 : bl V ≤ 60000 := by rw [← hV]; exact hTa
 obtain ⟨Q', H', hD⟩ := doc_cutz n hn q e (by omega) u hu (rtv T G) (2 * 2 ^ (kleast n - (-2000000)).toNat) (2 * 2 ^ (e - (-2000000)).toNat) (decide (V * 2 ^ sh ≠ q * q)) (Nat.mul_pos (by decide) (Nat.two_pow_pos _)) t1 hmore (by
  rw [Nat.mul_assoc, ← Nat.pow_add, Nat.mul_left_comm, ← Nat.pow_add]
  congr 2
  omega) k' F' hk' hF'
 have hS := cutz_same hC hD (rv_lt n hn) way hw false (ifn n)
 refine ⟨_, _, fun a1 c1 w hT h1 => hP way hw a1 c1 w hT h1, fun va w h1 => ?_⟩
 rw [hS.1, hS.2]
 have hq0 : q ≠ 0 := by
  intro h0
  rw [h0, bl_zero] at hqb
  omega
 have hl1 := shl_len2 V sh 5000 (by omega)
 have hl2 := digs_len_le q (V * 2 ^ sh) (Nat.le_trans (Nat.le_mul_of_pos_left q (by omega)) q1)
 rw [← hV, da] at hl1
 rw [← hV] at hl2
 rw [← da, hV] at h1
 have hM := mgz_le way false (ifn n) F' (decide (k' % 2 = 1)) (decide (flo q (e - u + 1) % 2 = 1)) (decide (V * 2 ^ sh ≠ q * q) || rst q (e - u + 1))
 have hV0 : V ≠ 0 := by rw [← hV]; exact a0
 have laV : (digs V).length ≤ 2000 := by rw [← hV, da]; exact la
 rw [hx]
 rcases hn with rfl | rfl
 ·refine rRoot_any 64 53 4503599627370496 2047 (-1074) 1024 9218868437227405312 (-9223372036854775808) 9221120237041090561 (by decide) V hV0 false x (by omega) va w h1 laV s0 sh hs0 e hs he q q1 q2 way ((if false = true then (-9223372036854775808 : Int) else 0) + (mgz way false (ifn 64) F' (decide (k' % 2 = 1)) (decide (flo q (e - u + 1) % 2 = 1)) (decide (V * 2 ^ sh ≠ q * q) || rst q (e - u + 1)) : Nat)) _ _ (fun v r1 hr => ?_) (fun v => ?_)
  ·exact rcut_64 way hw false _ hq0 e _ r1 v hr (by omega) (by omega) (by omega) u hu k' hk' F' hF' _ _ _ rfl rfl rfl _ rfl
  ·have := rtold_64 ((if false = true then (-9223372036854775808 : Int) else 0) + (mgz way false (ifn 64) F' (decide (k' % 2 = 1)) (decide (flo q (e - u + 1) % 2 = 1)) (decide (V * 2 ^ sh ≠ q * q) || rst q (e - u + 1)) : Nat)) (odz way false (ifn 64) F' (decide (k' % 2 = 1)) (decide (flo q (e - u + 1) % 2 = 1)) (decide (V * 2 ^ sh ≠ q * q) || rst q (e - u + 1))) v
   rw [told_pz_64 _ _ hM] at this
   exact this
 ·refine rRoot_any 32 24 8388608 255 (-149) 128 2139095040 2147483648 2143289345 (by decide) V hV0 false x (by omega) va w h1 laV s0 sh hs0 e hs he q q1 q2 way ((if false = true then (2147483648 : Int) else 0) + (mgz way false (ifn 32) F' (decide (k' % 2 = 1)) (decide (flo q (e - u + 1) % 2 = 1)) (decide (V * 2 ^ sh ≠ q * q) || rst q (e - u + 1)) : Nat)) _ _ (fun v r1 hr => ?_) (fun v => ?_)
  ·exact rcut_32 way hw false _ hq0 e _ r1 v hr (by omega) (by omega) (by omega) u hu k' hk' F' hF' _ _ _ rfl rfl rfl _ rfl
  ·have := rtold_32 ((if false = true then (2147483648 : Int) else 0) + (mgz way false (ifn 32) F' (decide (k' % 2 = 1)) (decide (flo q (e - u + 1) % 2 = 1)) (decide (V * 2 ^ sh ≠ q * q) || rst q (e - u + 1)) : Nat)) (odz way false (ifn 32) F' (decide (k' % 2 = 1)) (decide (flo q (e - u + 1) % 2 = 1)) (decide (V * 2 ^ sh ≠ q * q) || rst q (e - u + 1))) v
   rw [told_pz_32 _ _ hM] at this
   exact this
def QE (n way : Int) (a b : Nm) : Int := if FE n way (vld a && vld b) = 0 ∧ b.mag.length = 0 then 8 else FE n way (vld a && vld b)
def RE (n way : Int) (a : Nm) : Int := if FE n way (vld a) = 0 ∧ a.neg = true then 9 else FE n way (vld a)
theorem knd_lit (n : Int) (hn : n = 64 ∨ n = 32) : ∃ k0 p k2 k3 k4 k5 k6 k7 k8 : Int, knd n = .agg #[.int .i64 k0, .int .i64 p, .int .i64 k2, .int .i64 k3, .int .i64 k4, .int .i64 k5, .int .i64 k6, .int .i64 k7, .int .i64 k8] := knd_is n hn
theorem round_full (n way : Int) (a : Nm) (ra : Rg a.mag) (la : a.mag.length < 60000000) (f : Int) (hf : f = FE n way (vld a)) : ∃ (q : Int) (o : Bool), (∀ (a1 : Option Addr) (c1 : Nat) (w : World), Tab w → Sl w (.slice a1 a.mag.length c1) a.mag → Calls Tryz.prog 40 #[.agg #[.bool a.neg, .slice a1 a.mag.length c1, .int .i64 a.exp], .int .i64 n, .int .i64 way] w fun e w' => e = .returned (.tuple #[.int .i64 q, .bool o, .int .i64 f]) ∧ Kept w w') ∧ (f ≠ 0 → q = 0 ∧ o = false) ∧ (f = 0 → ∀ (a1 : Option Addr) (c1 : Nat) (w : World), (a1 = none → c1 = 0) → Sl w (.slice a1 a.mag.length c1) a.mag → Calls Tryz.prog 44 #[.agg #[.bool a.neg, .slice a1 a.mag.length c1, .int .i64 a.exp], .int .i64 n, .int .i64 way] w fun e w' => e = .returned (.tuple #[.int .i64 q, .bool o]) ∧ Kept w w') := by
 by_cases h0 : f = 0
 ·obtain ⟨hn, hw, hv⟩ := fe_ok (hf.symm.trans h0)
  refine ⟨rzN n way a, oxN n way a, fun a1 c1 w hT h1 => round_ans n way a ra la a1 c1 w hT h1 _ _ f hf (fun g => absurd h0 g) (fun _ => ⟨rfl, rfl⟩), fun g => absurd h0 g, fun _ a1 c1 w hc h1 => ?_⟩
  refine ref2round n way hn a.neg a1 a.mag.length c1 a.exp _ _ w (fun u k => ?_)
  rcases hn with rfl | rfl
  ·exact rto_64 way hw a hv _ u ⟨a1, c1, rfl, hc, h1.kept k⟩
  ·exact rto_32 way hw a hv _ u ⟨a1, c1, rfl, hc, h1.kept k⟩
 ·exact ⟨0, false, fun a1 c1 w hT h1 => round_ans n way a ra la a1 c1 w hT h1 _ _ f hf (fun _ => ⟨rfl, rfl⟩) (fun g => absurd g h0), fun _ => ⟨rfl, rfl⟩, fun g => absurd g h0⟩
theorem quot_full (n way : Int) (a b : Nm) (ra : Rg a.mag) (rb : Rg b.mag) (la : a.mag.length < 60000000) (lb : b.mag.length < 60000000) (f : Int) (hf : f = QE n way a b) : ∃ (q : Int) (o : Bool), (∀ (a1 a2 : Option Addr) (c1 c2 : Nat) (w : World), Tab w → Sl w (.slice a1 a.mag.length c1) a.mag → Sl w (.slice a2 b.mag.length c2) b.mag → Calls Tryz.prog 41 #[.agg #[.bool a.neg, .slice a1 a.mag.length c1, .int .i64 a.exp], .agg #[.bool b.neg, .slice a2 b.mag.length c2, .int .i64 b.exp], .int .i64 n, .int .i64 way] w fun e w' => e = .returned (.tuple #[.int .i64 q, .bool o, .int .i64 f]) ∧ Kept w w') ∧ (f ≠ 0 → q = 0 ∧ o = false) ∧ (f = 0 → ∀ (a1 a2 : Option Addr) (c1 c2 : Nat) (w : World), (a1 = none → c1 = 0) → (a2 = none → c2 = 0) → Sl w (.slice a1 a.mag.length c1) a.mag → Sl w (.slice a2 b.mag.length c2) b.mag → Calls Tryz.prog 46 #[.agg #[.bool a.neg, .slice a1 a.mag.length c1, .int .i64 a.exp], .agg #[.bool b.neg, .slice a2 b.mag.length c2, .int .i64 b.exp], .int .i64 n, .int .i64 way] w fun e w' => e = .returned (.tuple #[.int .i64 q, .bool o]) ∧ Kept w w') := by
 unfold QE at hf
 by_cases h0 : FE n way (vld a && vld b) = 0
 ·obtain ⟨hn, hw, hv⟩ := fe_ok h0
  obtain ⟨ha, hb⟩ := (Bool.and_eq_true_iff).1 hv
  by_cases hbm : b.mag.length = 0
  ·rw [if_pos ⟨h0, hbm⟩] at hf
   subst hf
   exact ⟨0, false, fun a1 a2 c1 c2 w hT h1 h2 => quot_div n way hn hw a b ra rb la lb a1 a2 c1 c2 w h1 h2 ha hb hbm, fun _ => ⟨rfl, rfl⟩, fun g => absurd g (by decide)⟩
  ·rw [if_neg (fun g => hbm g.2), h0] at hf
   subst hf
   by_cases ham : a.mag.length = 0
   ·refine ⟨0, false, fun a1 a2 c1 c2 w hT h1 h2 => quot_nought n way hn hw a b ra rb la lb a1 a2 c1 c2 w h1 h2 ha hb ham hbm, fun _ => ⟨rfl, rfl⟩, fun _ a1 a2 c1 c2 w hc1 hc2 h1 h2 => ?_⟩
    refine ref2quot n way hn a.neg b.neg a1 a2 a.mag.length c1 b.mag.length c2 a.exp b.exp _ _ w (fun u k => ?_)
    obtain ⟨k0, p, k2, k3, k4, k5, k6, k7, k8, hk⟩ := knd_lit n hn
    rw [ham]
    exact rQuot_nil _ k0 p k2 k3 k4 k5 k6 k7 k8 hk a.neg a1 c1 a.exp b.neg a2 b.mag.length c2 b.exp way u
   ·have ham' : a.mag ≠ [] := fun g => ham (by rw [g]; rfl)
    have hbm' : b.mag ≠ [] := fun g => hbm (by rw [g]; rfl)
    obtain ⟨q, o, hP, hD⟩ := quot_both n way hn hw a b ha hb ham' hbm'
    refine ⟨q, o, fun a1 a2 c1 c2 w hT h1 h2 => hP a1 a2 c1 c2 w hT h1 h2, fun g => absurd rfl g, fun _ a1 a2 c1 c2 w hc1 hc2 h1 h2 => ?_⟩
    exact ref2quot n way hn a.neg b.neg a1 a2 a.mag.length c1 b.mag.length c2 a.exp b.exp _ _ w (fun u k => hD _ _ u ⟨a1, c1, rfl, hc1, h1.kept k⟩ ⟨a2, c2, rfl, hc2, h2.kept k⟩)
 ·rw [if_neg (fun g => h0 g.1)] at hf
  have hf0 : f ≠ 0 := by rw [hf]; exact h0
  exact ⟨0, false, fun a1 a2 c1 c2 w hT h1 h2 => quot_no n way a b ra rb la lb a1 a2 c1 c2 w h1 h2 hT f hf hf0, fun _ => ⟨rfl, rfl⟩, fun g => absurd g hf0⟩
theorem root_full (n way : Int) (a : Nm) (ra : Rg a.mag) (la : a.mag.length < 60000000) (f : Int) (hf : f = RE n way a) : ∃ (q : Int) (o : Bool), (∀ (a1 : Option Addr) (c1 : Nat) (w : World), Tab w → Sl w (.slice a1 a.mag.length c1) a.mag → Calls Tryz.prog 42 #[.agg #[.bool a.neg, .slice a1 a.mag.length c1, .int .i64 a.exp], .int .i64 n, .int .i64 way] w fun e w' => e = .returned (.tuple #[.int .i64 q, .bool o, .int .i64 f]) ∧ Kept w w') ∧ (f ≠ 0 → q = 0 ∧ o = false) ∧ (f = 0 → ∀ (a1 : Option Addr) (c1 : Nat) (w : World), (a1 = none → c1 = 0) → Sl w (.slice a1 a.mag.length c1) a.mag → Calls Tryz.prog 47 #[.agg #[.bool a.neg, .slice a1 a.mag.length c1, .int .i64 a.exp], .int .i64 n, .int .i64 way] w fun e w' => e = .returned (.tuple #[.int .i64 q, .bool o]) ∧ Kept w w') := by
 unfold RE at hf
 by_cases h0 : FE n way (vld a) = 0
 ·obtain ⟨hn, hw, ha⟩ := fe_ok h0
  by_cases hng : a.neg = true
  ·rw [if_pos ⟨h0, hng⟩] at hf
   subst hf
   exact ⟨0, false, fun a1 c1 w hT h1 => root_below n way hn hw a ra la a1 c1 w h1 ha hng, fun _ => ⟨rfl, rfl⟩, fun g => absurd g (by decide)⟩
  ·rw [if_neg (fun g => hng g.2), h0] at hf
   subst hf
   have hng' : a.neg = false := by simpa using hng
   by_cases ham : a.mag.length = 0
   ·refine ⟨0, false, fun a1 c1 w hT h1 => root_nought n way hn hw a ra la a1 c1 w h1 ha ham hng', fun _ => ⟨rfl, rfl⟩, fun _ a1 c1 w hc1 h1 => ?_⟩
    refine ref2root n way hn a.neg a1 a.mag.length c1 a.exp _ _ w (fun u k => ?_)
    obtain ⟨k0, p, k2, k3, k4, k5, k6, k7, k8, hk⟩ := knd_lit n hn
    rw [ham]
    exact rRoot_nil _ k0 p k2 k3 k4 k5 k6 k7 k8 hk a.neg a1 c1 a.exp way u
   ·have ham' : a.mag ≠ [] := fun g => ham (by rw [g]; rfl)
    obtain ⟨q, o, hP, hD⟩ := root_both n way hn hw a ha hng' ham'
    refine ⟨q, o, fun a1 c1 w hT h1 => ?_, fun g => absurd rfl g, fun _ a1 c1 w hc1 h1 => ?_⟩
    ·rw [hng']
     exact hP a1 c1 w hT h1
    ·rw [hng']
     exact ref2root n way hn false a1 a.mag.length c1 a.exp _ _ w (fun u k => hD _ u ⟨a1, c1, rfl, hc1, h1.kept k⟩)
 ·rw [if_neg (fun g => h0 g.1)] at hf
  have hf0 : f ≠ 0 := by rw [hf]; exact h0
  exact ⟨0, false, fun a1 c1 w hT h1 => root_no n way a ra la a1 c1 w h1 f hf hf0, fun _ => ⟨rfl, rfl⟩, fun g => absurd g hf0⟩
end Go.Proofs.YtbffekcjdcihpaaGreatDoor
