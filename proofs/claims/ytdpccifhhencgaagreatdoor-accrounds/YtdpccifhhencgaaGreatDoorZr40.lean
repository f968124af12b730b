/- Where roundingOf refuses: a width, a way, a number that is none; Round, Quot, Root with it. What exact's Round, Quot and Root answer in all cases. -/
import Derived.Test.YtdpccifhhencgaaGreatDoorZr21
import Derived.Test.YtdpccifhhencgaaGreatDoorZr23
import Derived.Test.YtdpccifhhencgaaGreatDoorZr32
namespace Go.Proofs.YtdpccifhhencgaaGreatDoor
open Go.ChangeShapes Go.WideShapes Go.ChangeAt Go.RowKit
set_option linter.unusedVariables false
set_option linter.unusedSimpArgs false
set_option maxHeartbeats 16000000
set_option maxRecDepth 100000
def FE (n way : Int) (ok : Bool) : Int := if n = 64 ∨ n = 32 then (if way < 0 ∨ 2 < way then 1 else if ok = true then 0 else 7) else 3
abbrev zround : Value := .agg #[.int .i64 0, .int .i64 0, .int .i64 0, .int .i64 0, .nilFunc]
theorem roundingOf_w (n way : Int) (h1 : (n == 32) = false) (h2 : (n == 64) = false) (given : Value) (w : World) : Calls Tryz.prog 101 #[.int .i64 n, .int .i64 way, given] w fun e w' => e = .returned (.tuple #[zround, .int .i64 3]) ∧ Kept w w' := by
 have hK : Kept w (w.alloc nilRound) := (Kept.refl w).alloc _ _
 have HR : Hid (∀ u, Kept (w.alloc nilRound) u → (u.cell? ⟨w.heap.size, 0, none⟩ = some (.int .i64 0) ∧ u.cell? ⟨w.heap.size, 1, none⟩ = some (.int .i64 0) ∧ u.cell? ⟨w.heap.size, 2, none⟩ = some (.int .i64 0) ∧ u.cell? ⟨w.heap.size, 3, none⟩ = some (.int .i64 0) ∧ u.cell? ⟨w.heap.size, 4, none⟩ = some .nilFunc) ∧ ∀ o, u.frozen? ⟨w.heap.size, o, none⟩ = false) := fun u k => ⟨⟨(laid_cell k 0).trans (by simp [go_sem]), (laid_cell k 1).trans (by simp [go_sem]), (laid_cell k 2).trans (by simp [go_sem]), (laid_cell k 3).trans (by simp [go_sem]), (laid_cell k 4).trans (by simp [go_sem])⟩, fun o => (k.frozen _).trans (by simp [go_sem])⟩
 go_enter Tryz.func101, Tryz.ntmps101
 go_wp2_with ((go_at_call 114; refine (kindOf_0 n h1 h2 _).mono ?_; rintro e w1 ⟨rfl, hk1⟩; obtain ⟨⟨r0, r1, r2, r3, r4⟩, rf⟩ := HR.out _ (hk1.alloc #[.int .i64 0, .int .i64 0, .int .i64 0, .int .i64 0] 124)))
 exact bodyPost_ret (v := .tuple #[zround, .int .i64 3]) (by simp [results, Tryz.results101, go_sem, r0, r1, r2, r3, r4]) rfl ⟨rfl, (hK.trans (hk1.alloc _ _)) |>.setCell (by simp) _ |>.setCell (by simp) _ |>.setCell (by simp) _ |>.setCell (by simp) _ |>.setCell (by simp) _⟩
theorem roundingOf_y1 (n way : Int) (hn : n = 64 ∨ n = 32) (h1 : decide (way < 0) = true) (given : Value) (w : World) : Calls Tryz.prog 101 #[.int .i64 n, .int .i64 way, given] w fun e w' => e = .returned (.tuple #[zround, .int .i64 1]) ∧ Kept w w' := by
 have hK : Kept w (w.alloc nilRound) := (Kept.refl w).alloc _ _
 have HR : Hid (∀ u, Kept (w.alloc nilRound) u → (u.cell? ⟨w.heap.size, 0, none⟩ = some (.int .i64 0) ∧ u.cell? ⟨w.heap.size, 1, none⟩ = some (.int .i64 0) ∧ u.cell? ⟨w.heap.size, 2, none⟩ = some (.int .i64 0) ∧ u.cell? ⟨w.heap.size, 3, none⟩ = some (.int .i64 0) ∧ u.cell? ⟨w.heap.size, 4, none⟩ = some .nilFunc) ∧ ∀ o, u.frozen? ⟨w.heap.size, o, none⟩ = false) := fun u k => ⟨⟨(laid_cell k 0).trans (by simp [go_sem]), (laid_cell k 1).trans (by simp [go_sem]), (laid_cell k 2).trans (by simp [go_sem]), (laid_cell k 3).trans (by simp [go_sem]), (laid_cell k 4).trans (by simp [go_sem])⟩, fun o => (k.frozen _).trans (by simp [go_sem])⟩
 go_enter Tryz.func101, Tryz.ntmps101
 go_wp2_with ((go_at_call 114; refine (kindOf_ok n hn _).mono ?_; rintro e w1 ⟨rfl, hk1⟩; obtain ⟨⟨r0, r1, r2, r3, r4⟩, rf⟩ := HR.out _ (hk1.alloc #[.int .i64 n, .int .i64 (kprec n), .int .i64 (kleast n), .int .i64 (kinf n)] 124)))
 exact bodyPost_ret (v := .tuple #[zround, .int .i64 1]) (by simp [results, Tryz.results101, go_sem, r0, r1, r2, r3, r4]) rfl ⟨rfl, (hK.trans (hk1.alloc _ _)) |>.setCell (by simp) _ |>.setCell (by simp) _ |>.setCell (by simp) _ |>.setCell (by simp) _ |>.setCell (by simp) _⟩
theorem roundingOf_y2 (n way : Int) (hn : n = 64 ∨ n = 32) (h1 : decide (way < 0) = false) (h2 : decide (2 < way) = true) (given : Value) (w : World) : Calls Tryz.prog 101 #[.int .i64 n, .int .i64 way, given] w fun e w' => e = .returned (.tuple #[zround, .int .i64 1]) ∧ Kept w w' := by
 have hK : Kept w (w.alloc nilRound) := (Kept.refl w).alloc _ _
 have HR : Hid (∀ u, Kept (w.alloc nilRound) u → (u.cell? ⟨w.heap.size, 0, none⟩ = some (.int .i64 0) ∧ u.cell? ⟨w.heap.size, 1, none⟩ = some (.int .i64 0) ∧ u.cell? ⟨w.heap.size, 2, none⟩ = some (.int .i64 0) ∧ u.cell? ⟨w.heap.size, 3, none⟩ = some (.int .i64 0) ∧ u.cell? ⟨w.heap.size, 4, none⟩ = some .nilFunc) ∧ ∀ o, u.frozen? ⟨w.heap.size, o, none⟩ = false) := fun u k => ⟨⟨(laid_cell k 0).trans (by simp [go_sem]), (laid_cell k 1).trans (by simp [go_sem]), (laid_cell k 2).trans (by simp [go_sem]), (laid_cell k 3).trans (by simp [go_sem]), (laid_cell k 4).trans (by simp [go_sem])⟩, fun o => (k.frozen _).trans (by simp [go_sem])⟩
 go_enter Tryz.func101, Tryz.ntmps101
 go_wp2_with ((go_at_call 114; refine (kindOf_ok n hn _).mono ?_; rintro e w1 ⟨rfl, hk1⟩; obtain ⟨⟨r0, r1, r2, r3, r4⟩, rf⟩ := HR.out _ (hk1.alloc #[.int .i64 n, .int .i64 (kprec n), .int .i64 (kleast n), .int .i64 (kinf n)] 124)))
 exact bodyPost_ret (v := .tuple #[zround, .int .i64 1]) (by simp [results, Tryz.results101, go_sem, r0, r1, r2, r3, r4]) rfl ⟨rfl, (hK.trans (hk1.alloc _ _)) |>.setCell (by simp) _ |>.setCell (by simp) _ |>.setCell (by simp) _ |>.setCell (by simp) _ |>.setCell (by simp) _⟩
theorem roundingOf_v (n way : Int) (hn : n = 64 ∨ n = 32) (h1 : decide (way < 0) = false) (h2 : decide (2 < way) = false) (given : Value) (w : World) (KV : Hid (∀ w', Kept w w' → Calls Tryz.prog 135 #[given] w' fun e w'' => e = .returned (.bool false) ∧ Kept w' w'')) : Calls Tryz.prog 101 #[.int .i64 n, .int .i64 way, given] w fun e w' => e = .returned (.tuple #[zround, .int .i64 7]) ∧ Kept w w' := by
 have hK : Kept w (w.alloc nilRound) := (Kept.refl w).alloc _ _
 have HR : Hid (∀ u, Kept (w.alloc nilRound) u → (u.cell? ⟨w.heap.size, 0, none⟩ = some (.int .i64 0) ∧ u.cell? ⟨w.heap.size, 1, none⟩ = some (.int .i64 0) ∧ u.cell? ⟨w.heap.size, 2, none⟩ = some (.int .i64 0) ∧ u.cell? ⟨w.heap.size, 3, none⟩ = some (.int .i64 0) ∧ u.cell? ⟨w.heap.size, 4, none⟩ = some .nilFunc) ∧ ∀ o, u.frozen? ⟨w.heap.size, o, none⟩ = false) := fun u k => ⟨⟨(laid_cell k 0).trans (by simp [go_sem]), (laid_cell k 1).trans (by simp [go_sem]), (laid_cell k 2).trans (by simp [go_sem]), (laid_cell k 3).trans (by simp [go_sem]), (laid_cell k 4).trans (by simp [go_sem])⟩, fun o => (k.frozen _).trans (by simp [go_sem])⟩
 go_enter Tryz.func101, Tryz.ntmps101
 go_wp2_with (first | (go_at_call 114; refine (kindOf_ok n hn _).mono ?_; rintro e w1 ⟨rfl, hk1⟩) | (go_at_call 135; refine (KV.out _ (hK.trans (hk1.alloc _ _))).mono ?_; rintro e w2 ⟨rfl, hk2⟩; obtain ⟨⟨r0, r1, r2, r3, r4⟩, rf⟩ := HR.out _ ((hk1.alloc #[.int .i64 n, .int .i64 (kprec n), .int .i64 (kleast n), .int .i64 (kinf n)] 124).trans hk2)))
 exact bodyPost_ret (v := .tuple #[zround, .int .i64 7]) (by simp [results, Tryz.results101, go_sem, r0, r1, r2, r3, r4]) rfl ⟨rfl, (hK.trans ((hk1.alloc _ _).trans hk2)) |>.setCell (by simp) _ |>.setCell (by simp) _ |>.setCell (by simp) _ |>.setCell (by simp) _ |>.setCell (by simp) _⟩
theorem roundingOf_no (n way : Int) (ok : Bool) (h : FE n way ok ≠ 0) (given : Value) (w : World) (KV : Hid (∀ w', Kept w w' → Calls Tryz.prog 135 #[given] w' fun e w'' => e = .returned (.bool ok) ∧ Kept w' w'')) : Calls Tryz.prog 101 #[.int .i64 n, .int .i64 way, given] w fun e w' => e = .returned (.tuple #[zround, .int .i64 (FE n way ok)]) ∧ Kept w w' := by
 unfold FE at h ⊢
 by_cases hn : n = 64 ∨ n = 32
 ·rw [if_pos hn] at h ⊢
  by_cases h1 : way < 0
  ·rw [if_pos (Or.inl h1)]
   exact roundingOf_y1 n way hn (decide_eq_true h1) given w
  ·by_cases h2 : 2 < way
   ·rw [if_pos (Or.inr h2)]
    exact roundingOf_y2 n way hn (decide_eq_false h1) (decide_eq_true h2) given w
   ·rw [if_neg (by omega)] at h ⊢
    cases ok with
    | true => exact absurd rfl h
    | false => exact roundingOf_v n way hn (decide_eq_false h1) (decide_eq_false h2) given w KV
 ·rw [if_neg hn]
  exact roundingOf_w n way (by simp; omega) (by simp; omega) given w
theorem xround_no (n way fe : Int) (hfe : (fe == 0) = false) (ng : Bool) (ao : Option Addr) (ln c : Nat) (x : Int) (w : World) (KR : Hid (Calls Tryz.prog 101 #[.int .i64 n, .int .i64 way, .slice (some ⟨w.heap.size + 1, 0, none⟩) 1 1] ((w.alloc (.cells #[.bool ng, .slice ao ln c, .int .i64 x] 24)).alloc (.cells #[.bool ng, .slice ao ln c, .int .i64 x] 24)) fun e w' => e = .returned (.tuple #[zround, .int .i64 fe]) ∧ Kept ((w.alloc (.cells #[.bool ng, .slice ao ln c, .int .i64 x] 24)).alloc (.cells #[.bool ng, .slice ao ln c, .int .i64 x] 24)) w')) : Calls Tryz.prog 86 #[.agg #[.bool ng, .slice ao ln c, .int .i64 x], .int .i64 n, .int .i64 way] w fun e w' => e = .returned (.tuple #[.int .i64 0, .bool false, .int .i64 fe]) ∧ Kept w w' := by
 have hK : Kept w ((w.alloc (.cells #[.bool ng, .slice ao ln c, .int .i64 x] 24)).alloc (.cells #[.bool ng, .slice ao ln c, .int .i64 x] 24)) := ((Kept.refl w).alloc _ _).alloc _ _
 go_enter Tryz.func86, Tryz.ntmps86
 go_wp2_with (first | (go_at_call 101; refine KR.out.mono ?_; rintro e w1 ⟨rfl, hk1⟩))
 go_ret3
 exact ⟨rfl, hK.trans (hk1.alloc _ _)⟩
theorem xquot_no (n way fe : Int) (hfe : (fe == 0) = false) (n1 n2 : Bool) (a1 a2 : Option Addr) (l1 c1 l2 c2 : Nat) (x1 x2 : Int) (w : World) (KR : Hid (Calls Tryz.prog 101 #[.int .i64 n, .int .i64 way, .slice (some ⟨w.heap.size + 2, 0, none⟩) 2 2] (((w.alloc (.cells #[.bool n1, .slice a1 l1 c1, .int .i64 x1] 24)).alloc (.cells #[.bool n2, .slice a2 l2 c2, .int .i64 x2] 24)).alloc (.cells (pairC n1 (.slice a1 l1 c1) x1 n2 (.slice a2 l2 c2) x2) 24)) fun e w' => e = .returned (.tuple #[zround, .int .i64 fe]) ∧ Kept (((w.alloc (.cells #[.bool n1, .slice a1 l1 c1, .int .i64 x1] 24)).alloc (.cells #[.bool n2, .slice a2 l2 c2, .int .i64 x2] 24)).alloc (.cells (pairC n1 (.slice a1 l1 c1) x1 n2 (.slice a2 l2 c2) x2) 24)) w')) : Calls Tryz.prog 60 #[.agg #[.bool n1, .slice a1 l1 c1, .int .i64 x1], .agg #[.bool n2, .slice a2 l2 c2, .int .i64 x2], .int .i64 n, .int .i64 way] w fun e w' => e = .returned (.tuple #[.int .i64 0, .bool false, .int .i64 fe]) ∧ Kept w w' := by
 have hK : Kept w (((w.alloc (.cells #[.bool n1, .slice a1 l1 c1, .int .i64 x1] 24)).alloc (.cells #[.bool n2, .slice a2 l2 c2, .int .i64 x2] 24)).alloc (.cells (pairC n1 (.slice a1 l1 c1) x1 n2 (.slice a2 l2 c2) x2) 24)) := (((Kept.refl w).alloc _ _).alloc _ _).alloc _ _
 go_enter Tryz.func60, Tryz.ntmps60
 go_wp2_with (first | (go_at_call 101; refine KR.out.mono ?_; rintro e w1 ⟨rfl, hk1⟩))
 go_ret3
 exact ⟨rfl, hK.trans (hk1.alloc _ _)⟩
theorem av1 (a : Nm) (ra : Rg a.mag) (la : a.mag.length < 60000000) (a1 : Option Addr) (c1 : Nat) (w : World) (h1 : Sl w (.slice a1 a.mag.length c1) a.mag) : Hid (∀ u, Kept ((w.alloc (.cells #[.bool a.neg, .slice a1 a.mag.length c1, .int .i64 a.exp] 24)).alloc (.cells #[.bool a.neg, .slice a1 a.mag.length c1, .int .i64 a.exp] 24)) u → Calls Tryz.prog 135 #[.slice (some ⟨w.heap.size + 1, 0, none⟩) 1 1] u fun e w' => e = .returned (.bool (vld a)) ∧ Kept u w') := fun u k => by
 have hK : Kept w ((w.alloc (.cells #[.bool a.neg, .slice a1 a.mag.length c1, .int .i64 a.exp] 24)).alloc (.cells #[.bool a.neg, .slice a1 a.mag.length c1, .int .i64 a.exp] 24)) := ((Kept.refl w).alloc _ _).alloc _ _
 have hb : w.heap.size + 1 < ((w.alloc (.cells #[.bool a.neg, .slice a1 a.mag.length c1, .int .i64 a.exp] 24)).alloc (.cells #[.bool a.neg, .slice a1 a.mag.length c1, .int .i64 a.exp] 24)).heap.size := by simp
 exact (allValid_at (w.heap.size + 1) (Nat.lt_of_lt_of_le hb k.below.size) a.neg a.mag ra (by omega) a1 c1 a.exp (h1.kept (hK.trans k)) ((k.below.cell (p := ⟨w.heap.size + 1, 0, none⟩) hb).trans (by simp [go_sem])) ((k.below.cell (p := ⟨w.heap.size + 1, 1, none⟩) hb).trans (by simp [go_sem])) ((k.below.cell (p := ⟨w.heap.size + 1, 2, none⟩) hb).trans (by simp [go_sem])) (vld a) rfl).out u (Kept.refl _)
theorem av2 (a b : Nm) (ra : Rg a.mag) (rb : Rg b.mag) (la : a.mag.length < 60000000) (lb : b.mag.length < 60000000) (a1 a2 : Option Addr) (c1 c2 : Nat) (w : World) (h1 : Sl w (.slice a1 a.mag.length c1) a.mag) (h2 : Sl w (.slice a2 b.mag.length c2) b.mag) : Hid (∀ u, Kept (((w.alloc (.cells #[.bool a.neg, .slice a1 a.mag.length c1, .int .i64 a.exp] 24)).alloc (.cells #[.bool b.neg, .slice a2 b.mag.length c2, .int .i64 b.exp] 24)).alloc (.cells (pairC a.neg (.slice a1 a.mag.length c1) a.exp b.neg (.slice a2 b.mag.length c2) b.exp) 24)) u → Calls Tryz.prog 135 #[.slice (some ⟨w.heap.size + 2, 0, none⟩) 2 2] u fun e w' => e = .returned (.bool (vld a && vld b)) ∧ Kept u w') := fun u k => by
 have hK : Kept w (((w.alloc (.cells #[.bool a.neg, .slice a1 a.mag.length c1, .int .i64 a.exp] 24)).alloc (.cells #[.bool b.neg, .slice a2 b.mag.length c2, .int .i64 b.exp] 24)).alloc (.cells (pairC a.neg (.slice a1 a.mag.length c1) a.exp b.neg (.slice a2 b.mag.length c2) b.exp) 24)) := (((Kept.refl w).alloc _ _).alloc _ _).alloc _ _
 have hb' : w.heap.size + 2 < (((w.alloc (.cells #[.bool a.neg, .slice a1 a.mag.length c1, .int .i64 a.exp] 24)).alloc (.cells #[.bool b.neg, .slice a2 b.mag.length c2, .int .i64 b.exp] 24)).alloc (.cells (pairC a.neg (.slice a1 a.mag.length c1) a.exp b.neg (.slice a2 b.mag.length c2) b.exp) 24)).heap.size := by simp
 exact allValid_2 u (w.heap.size + 2) 2 a.neg b.neg a1 a2 a.mag.length c1 b.mag.length c2 a.exp b.exp (vld a) (vld b) (Nat.lt_of_lt_of_le hb' k.below.size) ((k.below.cell (p := ⟨w.heap.size + 2, 0, none⟩) hb').trans (by simp [go_sem])) ((k.below.cell (p := ⟨w.heap.size + 2, 1, none⟩) hb').trans (by simp [go_sem])) ((k.below.cell (p := ⟨w.heap.size + 2, 2, none⟩) hb').trans (by simp [go_sem])) ((k.below.cell (p := ⟨w.heap.size + 2, 3, none⟩) hb').trans (by simp [go_sem])) ((k.below.cell (p := ⟨w.heap.size + 2, 4, none⟩) hb').trans (by simp [go_sem])) ((k.below.cell (p := ⟨w.heap.size + 2, 5, none⟩) hb').trans (by simp [go_sem])) (fun v kv => xvalid_any a ra (by omega) (.agg #[.bool a.neg, .slice a1 a.mag.length c1, .int .i64 a.exp]) v ⟨_, rfl, ((h1.kept hK).kept k).kept kv⟩) (fun v kv => xvalid_any b rb (by omega) (.agg #[.bool b.neg, .slice a2 b.mag.length c2, .int .i64 b.exp]) v ⟨_, rfl, ((h2.kept hK).kept k).kept kv⟩)
theorem fe_ok {n way : Int} {ok : Bool} (h : FE n way ok = 0) : (n = 64 ∨ n = 32) ∧ (way = 0 ∨ way = 1 ∨ way = 2) ∧ ok = true := by
 unfold FE at h
 split at h
 ·rename_i hn
  split at h
  ·exact absurd h (by decide)
  ·split at h
   ·rename_i h2 h3
    exact ⟨hn, by omega, h3⟩
   ·exact absurd h (by decide)
 ·exact absurd h (by decide)
theorem xquot_div (n pr le fi way : Int) (fv : Nat) (n1 n2 : Bool) (a1 a2 : Option Addr) (l1 c1 l2 c2 : Nat) (x1 x2 : Int) (w : World)
  (KR : Hid (Calls Tryz.prog 101 #[.int .i64 n, .int .i64 way, .slice (some ⟨w.heap.size + 2, 0, none⟩) 2 2] (((w.alloc (.cells #[.bool n1, .slice a1 l1 c1, .int .i64 x1] 24)).alloc (.cells #[.bool n2, .slice a2 l2 c2, .int .i64 x2] 24)).alloc (.cells (pairC n1 (.slice a1 l1 c1) x1 n2 (.slice a2 l2 c2) x2) 24)) fun e w' => e = .returned (.tuple #[.agg #[.int .i64 n, .int .i64 pr, .int .i64 le, .int .i64 fi, .func (.func fv) #[] #[]], .int .i64 0]) ∧ Kept (((w.alloc (.cells #[.bool n1, .slice a1 l1 c1, .int .i64 x1] 24)).alloc (.cells #[.bool n2, .slice a2 l2 c2, .int .i64 x2] 24)).alloc (.cells (pairC n1 (.slice a1 l1 c1) x1 n2 (.slice a2 l2 c2) x2) 24)) w'))
  (KG : Hid (∀ u, Kept w u → Calls Tryz.prog 102 #[.agg #[.bool n2, .slice a2 l2 c2, .int .i64 x2]] u fun e w' => e = .returned (.int .i64 0) ∧ Kept u w')) :
  Calls Tryz.prog 60 #[.agg #[.bool n1, .slice a1 l1 c1, .int .i64 x1], .agg #[.bool n2, .slice a2 l2 c2, .int .i64 x2], .int .i64 n, .int .i64 way] w fun e w' => e = .returned (.tuple #[.int .i64 0, .bool false, .int .i64 8]) ∧ Kept w w' := by
 have hK : Kept w (((w.alloc (.cells #[.bool n1, .slice a1 l1 c1, .int .i64 x1] 24)).alloc (.cells #[.bool n2, .slice a2 l2 c2, .int .i64 x2] 24)).alloc (.cells (pairC n1 (.slice a1 l1 c1) x1 n2 (.slice a2 l2 c2) x2) 24)) := (((Kept.refl w).alloc _ _).alloc _ _).alloc _ _
 go_enter Tryz.func60, Tryz.ntmps60
 go_wp2_with fail
 refine KR.out.mono ?_
 rintro e w1 ⟨rfl, hk1⟩
 have hsz : w.heap.size + 3 ≤ w1.heap.size := by have := hk1.below.size; simpa using this
 have k1' : Kept ((w.alloc (.cells #[.bool n1, .slice a1 l1 c1, .int .i64 x1] 24)).alloc (.cells #[.bool n2, .slice a2 l2 c2, .int .i64 x2] 24)) (w1.alloc (.cells #[.int .i64 n, .int .i64 pr, .int .i64 le, .int .i64 fi, .func (.func fv) #[] #[]] 129)) := ((Kept.refl _).alloc _ _).trans (hk1.alloc _ _)
 have hb1 : w.heap.size + 1 < ((w.alloc (.cells #[.bool n1, .slice a1 l1 c1, .int .i64 x1] 24)).alloc (.cells #[.bool n2, .slice a2 l2 c2, .int .i64 x2] 24)).heap.size := by simp
 have q0 := (k1'.below.cell (p := ⟨w.heap.size + 1, 0, none⟩) hb1).trans (show _ = some (.bool n2) by simp [go_sem])
 have q1 := (k1'.below.cell (p := ⟨w.heap.size + 1, 1, none⟩) hb1).trans (show _ = some (.slice a2 l2 c2) by simp [go_sem])
 have q2 := (k1'.below.cell (p := ⟨w.heap.size + 1, 2, none⟩) hb1).trans (show _ = some (.int .i64 x2) by simp [go_sem])
 clear hsz hb1
 go_wp2_with fail
 refine (KG.out _ (hK.trans (hk1.alloc _ _))).mono ?_
 rintro e w2 ⟨rfl, hk2⟩
 go_wp2_with fail
 go_ret3
 exact ⟨rfl, hK.trans ((hk1.alloc _ _).trans hk2)⟩
/- Round -/
theorem round_ans (n way : Int) (a : Nm) (ra : Rg a.mag) (la : a.mag.length < 60000000) (a1 : Option Addr) (c1 : Nat) (w : World) (hT : Tab w) (h1 : Sl w (.slice a1 a.mag.length c1) a.mag) (q : Int) (o : Bool) (fe : Int) (hfe : fe = FE n way (vld a)) (hno : fe ≠ 0 → q = 0 ∧ o = false) (hok : fe = 0 → q = rzN n way a ∧ o = oxN n way a) : Calls Tryz.prog 86 #[.agg #[.bool a.neg, .slice a1 a.mag.length c1, .int .i64 a.exp], .int .i64 n, .int .i64 way] w fun e w' => e = .returned (.tuple #[.int .i64 q, .bool o, .int .i64 fe]) ∧ Kept w w' := by
 by_cases h0 : fe = 0
 ·obtain ⟨rfl, rfl⟩ := hok h0
  obtain ⟨hn, hw, hv⟩ := fe_ok (hfe.symm.trans h0)
  rw [h0]
  exact roundz n way hn hw a hv a1 c1 w hT h1
 ·obtain ⟨rfl, rfl⟩ := hno h0
  exact xround_no n way fe (by simpa using h0) a.neg a1 a.mag.length c1 a.exp w (by rw [hfe]; exact roundingOf_no n way (vld a) (by rw [← hfe]; exact h0) _ _ (av1 a ra la a1 c1 w h1))
/- Quot, where it is refused, by 0, and of 0 -/
theorem quot_no (n way : Int) (a b : Nm) (ra : Rg a.mag) (rb : Rg b.mag) (la : a.mag.length < 60000000) (lb : b.mag.length < 60000000) (a1 a2 : Option Addr) (c1 c2 : Nat) (w : World) (h1 : Sl w (.slice a1 a.mag.length c1) a.mag) (h2 : Sl w (.slice a2 b.mag.length c2) b.mag) (hT : Tab w) (fe : Int) (hfe : fe = FE n way (vld a && vld b)) (h0 : fe ≠ 0) : Calls Tryz.prog 60 #[.agg #[.bool a.neg, .slice a1 a.mag.length c1, .int .i64 a.exp], .agg #[.bool b.neg, .slice a2 b.mag.length c2, .int .i64 b.exp], .int .i64 n, .int .i64 way] w fun e w' => e = .returned (.tuple #[.int .i64 0, .bool false, .int .i64 fe]) ∧ Kept w w' :=
 xquot_no n way fe (by simpa using h0) a.neg b.neg a1 a2 a.mag.length c1 b.mag.length c2 a.exp b.exp w (by rw [hfe]; exact roundingOf_no n way (vld a && vld b) (by rw [← hfe]; exact h0) _ _ (av2 a b ra rb la lb a1 a2 c1 c2 w h1 h2))
theorem quot_div (n way : Int) (hn : n = 64 ∨ n = 32) (hw : way = 0 ∨ way = 1 ∨ way = 2) (a b : Nm) (ra : Rg a.mag) (rb : Rg b.mag) (la : a.mag.length < 60000000) (lb : b.mag.length < 60000000) (a1 a2 : Option Addr) (c1 c2 : Nat) (w : World) (h1 : Sl w (.slice a1 a.mag.length c1) a.mag) (h2 : Sl w (.slice a2 b.mag.length c2) b.mag) (ha : vld a = true) (hb : vld b = true) (hbm : b.mag.length = 0) : Calls Tryz.prog 60 #[.agg #[.bool a.neg, .slice a1 a.mag.length c1, .int .i64 a.exp], .agg #[.bool b.neg, .slice a2 b.mag.length c2, .int .i64 b.exp], .int .i64 n, .int .i64 way] w fun e w' => e = .returned (.tuple #[.int .i64 0, .bool false, .int .i64 8]) ∧ Kept w w' := by
 have hv := av2 a b ra rb la lb a1 a2 c1 c2 w h1 h2
 rw [ha, hb] at hv
 refine xquot_div n _ _ _ way _ a.neg b.neg a1 a2 a.mag.length c1 b.mag.length c2 a.exp b.exp w (roundingOf_ok n way hn hw _ _ hv) (fun u _ => ?_)
 have := signOf_any b.neg a2 b.mag.length c2 b.exp u
 rw [if_pos hbm] at this
 exact this
theorem quot_nought (n way : Int) (hn : n = 64 ∨ n = 32) (hw : way = 0 ∨ way = 1 ∨ way = 2) (a b : Nm) (ra : Rg a.mag) (rb : Rg b.mag) (la : a.mag.length < 60000000) (lb : b.mag.length < 60000000) (a1 a2 : Option Addr) (c1 c2 : Nat) (w : World) (h1 : Sl w (.slice a1 a.mag.length c1) a.mag) (h2 : Sl w (.slice a2 b.mag.length c2) b.mag) (ha : vld a = true) (hb : vld b = true) (ham : a.mag.length = 0) (hbm : b.mag.length ≠ 0) : Calls Tryz.prog 60 #[.agg #[.bool a.neg, .slice a1 a.mag.length c1, .int .i64 a.exp], .agg #[.bool b.neg, .slice a2 b.mag.length c2, .int .i64 b.exp], .int .i64 n, .int .i64 way] w fun e w' => e = .returned (.tuple #[.int .i64 0, .bool false, .int .i64 0]) ∧ Kept w w' := by
 have hv := av2 a b ra rb la lb a1 a2 c1 c2 w h1 h2
 rw [ha, hb] at hv
 have KG : ∀ u, Kept w u → _ := fun u _ => signOf_any b.neg a2 b.mag.length c2 b.exp u
 rw [if_neg hbm] at KG
 have hsg : ((if b.neg = true then (-1 : Int) else 1) == 0) = false := by cases b.neg <;> rfl
 have KQ : ∀ u, Kept w u → _ := fun u _ => quotient_nil a.neg a1 c1 a.exp b.neg a2 b.mag.length c2 b.exp u
 rw [← ham] at KQ
 have KR := roundingOf_ok n way hn hw _ _ hv
 exact xquot way _ n _ _ _ a.neg b.neg a1 a2 a.mag.length c1 b.mag.length c2 a.exp b.exp _ _ _ hsg _ _ _ _ w KR KG KQ (fun u _ => round_zero n _ _ _ _ 0 false false u)
/- Root, where it is refused, of what is below 0, and of 0 -/
end Go.Proofs.YtdpccifhhencgaaGreatDoor
