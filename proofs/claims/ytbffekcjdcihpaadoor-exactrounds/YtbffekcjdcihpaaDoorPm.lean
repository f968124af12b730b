/- Where roundingOf refuses: a width, a way, a number that is none; Round, Quot, Root with it. What exact's Round, Quot and Root answer in all cases. The laws' told; the document's First, Round, QuotOdd, Root, by its kinds. -/
import Derived.Test.YtbffekcjdcihpaaDoorR1
import Derived.Test.YtbffekcjdcihpaaDoorPc
import Derived.Test.YtbffekcjdcihpaaDoorPi
namespace Go.Proofs.YtbffekcjdcihpaaDoor
open Go.ChangeShapes Go.WideShapes Go.ChangeAt Go.RowKit
set_option linter.unusedVariables false
set_option linter.unusedSimpArgs false

def FE (n way : Int) (ok : Bool) : Int := if n = 64 ∨ n = 32 then (if way < 0 ∨ 2 < way then 1 else if ok = true then 0 else 7) else 3
abbrev zround : Value := .agg #[.int .i64 0, .int .i64 0, .int .i64 0, .int .i64 0, .nilFunc]

set_option maxHeartbeats 2000000 in
set_option maxRecDepth 100000 in
theorem roundingOf_w (n way : Int) (h1 : (n == 32) = false) (h2 : (n == 64) = false) (given : Value) (w : World) : Calls Tryd.prog 29 #[.int .i64 n, .int .i64 way, given] w fun e w' => e = .returned (.tuple #[zround, .int .i64 3]) ∧ Kept w w' := by
  have hK : Kept w (w.alloc nilRound) := (Kept.refl w).alloc _ _
  have HR : Hid (∀ u, Kept (w.alloc nilRound) u → (u.cell? ⟨w.heap.size, 0, none⟩ = some (.int .i64 0) ∧ u.cell? ⟨w.heap.size, 1, none⟩ = some (.int .i64 0) ∧ u.cell? ⟨w.heap.size, 2, none⟩ = some (.int .i64 0) ∧ u.cell? ⟨w.heap.size, 3, none⟩ = some (.int .i64 0) ∧ u.cell? ⟨w.heap.size, 4, none⟩ = some .nilFunc) ∧ ∀ o, u.frozen? ⟨w.heap.size, o, none⟩ = false) := fun u k => ⟨⟨(laid_cell k 0).trans (by simp [go_sem]), (laid_cell k 1).trans (by simp [go_sem]), (laid_cell k 2).trans (by simp [go_sem]), (laid_cell k 3).trans (by simp [go_sem]), (laid_cell k 4).trans (by simp [go_sem])⟩, fun o => (k.frozen _).trans (by simp [go_sem])⟩
  go_enter Tryd.func29, Tryd.ntmps29
  go_wp2_with ((go_at_call 52; refine (kindOf_0 n h1 h2 _).mono ?_; rintro e w1 ⟨rfl, hk1⟩; obtain ⟨⟨r0, r1, r2, r3, r4⟩, rf⟩ := HR.out _ (hk1.alloc #[.int .i64 0, .int .i64 0, .int .i64 0, .int .i64 0] 54)))
  exact bodyPost_ret (v := .tuple #[zround, .int .i64 3]) (by simp [results, Tryd.results29, go_sem, r0, r1, r2, r3, r4]) rfl ⟨rfl, (hK.trans (hk1.alloc _ _)) |>.setCell (by simp) _ |>.setCell (by simp) _ |>.setCell (by simp) _ |>.setCell (by simp) _ |>.setCell (by simp) _⟩

set_option maxHeartbeats 2000000 in
set_option maxRecDepth 100000 in
theorem roundingOf_y1 (n way : Int) (hn : n = 64 ∨ n = 32) (h1 : decide (way < 0) = true) (given : Value) (w : World) : Calls Tryd.prog 29 #[.int .i64 n, .int .i64 way, given] w fun e w' => e = .returned (.tuple #[zround, .int .i64 1]) ∧ Kept w w' := by
  have hK : Kept w (w.alloc nilRound) := (Kept.refl w).alloc _ _
  have HR : Hid (∀ u, Kept (w.alloc nilRound) u → (u.cell? ⟨w.heap.size, 0, none⟩ = some (.int .i64 0) ∧ u.cell? ⟨w.heap.size, 1, none⟩ = some (.int .i64 0) ∧ u.cell? ⟨w.heap.size, 2, none⟩ = some (.int .i64 0) ∧ u.cell? ⟨w.heap.size, 3, none⟩ = some (.int .i64 0) ∧ u.cell? ⟨w.heap.size, 4, none⟩ = some .nilFunc) ∧ ∀ o, u.frozen? ⟨w.heap.size, o, none⟩ = false) := fun u k => ⟨⟨(laid_cell k 0).trans (by simp [go_sem]), (laid_cell k 1).trans (by simp [go_sem]), (laid_cell k 2).trans (by simp [go_sem]), (laid_cell k 3).trans (by simp [go_sem]), (laid_cell k 4).trans (by simp [go_sem])⟩, fun o => (k.frozen _).trans (by simp [go_sem])⟩
  go_enter Tryd.func29, Tryd.ntmps29
  go_wp2_with ((go_at_call 52; refine (kindOf_ok n hn _).mono ?_; rintro e w1 ⟨rfl, hk1⟩; obtain ⟨⟨r0, r1, r2, r3, r4⟩, rf⟩ := HR.out _ (hk1.alloc #[.int .i64 n, .int .i64 (kprec n), .int .i64 (kleast n), .int .i64 (kinf n)] 54)))
  exact bodyPost_ret (v := .tuple #[zround, .int .i64 1]) (by simp [results, Tryd.results29, go_sem, r0, r1, r2, r3, r4]) rfl ⟨rfl, (hK.trans (hk1.alloc _ _)) |>.setCell (by simp) _ |>.setCell (by simp) _ |>.setCell (by simp) _ |>.setCell (by simp) _ |>.setCell (by simp) _⟩

set_option maxHeartbeats 2000000 in
set_option maxRecDepth 100000 in
theorem roundingOf_y2 (n way : Int) (hn : n = 64 ∨ n = 32) (h1 : decide (way < 0) = false) (h2 : decide (2 < way) = true) (given : Value) (w : World) : Calls Tryd.prog 29 #[.int .i64 n, .int .i64 way, given] w fun e w' => e = .returned (.tuple #[zround, .int .i64 1]) ∧ Kept w w' := by
  have hK : Kept w (w.alloc nilRound) := (Kept.refl w).alloc _ _
  have HR : Hid (∀ u, Kept (w.alloc nilRound) u → (u.cell? ⟨w.heap.size, 0, none⟩ = some (.int .i64 0) ∧ u.cell? ⟨w.heap.size, 1, none⟩ = some (.int .i64 0) ∧ u.cell? ⟨w.heap.size, 2, none⟩ = some (.int .i64 0) ∧ u.cell? ⟨w.heap.size, 3, none⟩ = some (.int .i64 0) ∧ u.cell? ⟨w.heap.size, 4, none⟩ = some .nilFunc) ∧ ∀ o, u.frozen? ⟨w.heap.size, o, none⟩ = false) := fun u k => ⟨⟨(laid_cell k 0).trans (by simp [go_sem]), (laid_cell k 1).trans (by simp [go_sem]), (laid_cell k 2).trans (by simp [go_sem]), (laid_cell k 3).trans (by simp [go_sem]), (laid_cell k 4).trans (by simp [go_sem])⟩, fun o => (k.frozen _).trans (by simp [go_sem])⟩
  go_enter Tryd.func29, Tryd.ntmps29
  go_wp2_with ((go_at_call 52; refine (kindOf_ok n hn _).mono ?_; rintro e w1 ⟨rfl, hk1⟩; obtain ⟨⟨r0, r1, r2, r3, r4⟩, rf⟩ := HR.out _ (hk1.alloc #[.int .i64 n, .int .i64 (kprec n), .int .i64 (kleast n), .int .i64 (kinf n)] 54)))
  exact bodyPost_ret (v := .tuple #[zround, .int .i64 1]) (by simp [results, Tryd.results29, go_sem, r0, r1, r2, r3, r4]) rfl ⟨rfl, (hK.trans (hk1.alloc _ _)) |>.setCell (by simp) _ |>.setCell (by simp) _ |>.setCell (by simp) _ |>.setCell (by simp) _ |>.setCell (by simp) _⟩

set_option maxHeartbeats 2000000 in
set_option maxRecDepth 100000 in
theorem roundingOf_v (n way : Int) (hn : n = 64 ∨ n = 32) (h1 : decide (way < 0) = false) (h2 : decide (2 < way) = false) (given : Value) (w : World) (KV : Hid (∀ w', Kept w w' → Calls Tryd.prog 43 #[given] w' fun e w'' => e = .returned (.bool false) ∧ Kept w' w'')) : Calls Tryd.prog 29 #[.int .i64 n, .int .i64 way, given] w fun e w' => e = .returned (.tuple #[zround, .int .i64 7]) ∧ Kept w w' := by
  have hK : Kept w (w.alloc nilRound) := (Kept.refl w).alloc _ _
  have HR : Hid (∀ u, Kept (w.alloc nilRound) u → (u.cell? ⟨w.heap.size, 0, none⟩ = some (.int .i64 0) ∧ u.cell? ⟨w.heap.size, 1, none⟩ = some (.int .i64 0) ∧ u.cell? ⟨w.heap.size, 2, none⟩ = some (.int .i64 0) ∧ u.cell? ⟨w.heap.size, 3, none⟩ = some (.int .i64 0) ∧ u.cell? ⟨w.heap.size, 4, none⟩ = some .nilFunc) ∧ ∀ o, u.frozen? ⟨w.heap.size, o, none⟩ = false) := fun u k => ⟨⟨(laid_cell k 0).trans (by simp [go_sem]), (laid_cell k 1).trans (by simp [go_sem]), (laid_cell k 2).trans (by simp [go_sem]), (laid_cell k 3).trans (by simp [go_sem]), (laid_cell k 4).trans (by simp [go_sem])⟩, fun o => (k.frozen _).trans (by simp [go_sem])⟩
  go_enter Tryd.func29, Tryd.ntmps29
  go_wp2_with (first | (go_at_call 52; refine (kindOf_ok n hn _).mono ?_; rintro e w1 ⟨rfl, hk1⟩) | (go_at_call 43; refine (KV.out _ (hK.trans (hk1.alloc _ _))).mono ?_; rintro e w2 ⟨rfl, hk2⟩; obtain ⟨⟨r0, r1, r2, r3, r4⟩, rf⟩ := HR.out _ ((hk1.alloc #[.int .i64 n, .int .i64 (kprec n), .int .i64 (kleast n), .int .i64 (kinf n)] 54).trans hk2)))
  exact bodyPost_ret (v := .tuple #[zround, .int .i64 7]) (by simp [results, Tryd.results29, go_sem, r0, r1, r2, r3, r4]) rfl ⟨rfl, (hK.trans ((hk1.alloc _ _).trans hk2)) |>.setCell (by simp) _ |>.setCell (by simp) _ |>.setCell (by simp) _ |>.setCell (by simp) _ |>.setCell (by simp) _⟩

theorem roundingOf_no (n way : Int) (ok : Bool) (h : FE n way ok ≠ 0) (given : Value) (w : World) (KV : Hid (∀ w', Kept w w' → Calls Tryd.prog 43 #[given] w' fun e w'' => e = .returned (.bool ok) ∧ Kept w' w'')) : Calls Tryd.prog 29 #[.int .i64 n, .int .i64 way, given] w fun e w' => e = .returned (.tuple #[zround, .int .i64 (FE n way ok)]) ∧ Kept w w' := by
  unfold FE at h ⊢
  by_cases hn : n = 64 ∨ n = 32
  · rw [if_pos hn] at h ⊢
    by_cases h1 : way < 0
    · rw [if_pos (Or.inl h1)]
      exact roundingOf_y1 n way hn (decide_eq_true h1) given w
    · by_cases h2 : 2 < way
      · rw [if_pos (Or.inr h2)]
        exact roundingOf_y2 n way hn (decide_eq_false h1) (decide_eq_true h2) given w
      · rw [if_neg (by omega)] at h ⊢
        cases ok with
        | true => exact absurd rfl h
        | false => exact roundingOf_v n way hn (decide_eq_false h1) (decide_eq_false h2) given w KV
  · rw [if_neg hn]
    exact roundingOf_w n way (by simp; omega) (by simp; omega) given w

set_option maxHeartbeats 2000000 in
set_option maxRecDepth 100000 in
theorem xround_no (n way fe : Int) (hfe : (fe == 0) = false) (ng : Bool) (ao : Option Addr) (ln c : Nat) (x : Int) (w : World) (KR : Hid (Calls Tryd.prog 29 #[.int .i64 n, .int .i64 way, .slice (some ⟨w.heap.size + 1, 0, none⟩) 1 1] ((w.alloc (.cells #[.bool ng, .slice ao ln c, .int .i64 x] 24)).alloc (.cells #[.bool ng, .slice ao ln c, .int .i64 x] 24)) fun e w' => e = .returned (.tuple #[zround, .int .i64 fe]) ∧ Kept ((w.alloc (.cells #[.bool ng, .slice ao ln c, .int .i64 x] 24)).alloc (.cells #[.bool ng, .slice ao ln c, .int .i64 x] 24)) w')) : Calls Tryd.prog 12 #[.agg #[.bool ng, .slice ao ln c, .int .i64 x], .int .i64 n, .int .i64 way] w fun e w' => e = .returned (.tuple #[.int .i64 0, .bool false, .int .i64 fe]) ∧ Kept w w' := by
  have hK : Kept w ((w.alloc (.cells #[.bool ng, .slice ao ln c, .int .i64 x] 24)).alloc (.cells #[.bool ng, .slice ao ln c, .int .i64 x] 24)) := ((Kept.refl w).alloc _ _).alloc _ _
  go_enter Tryd.func12, Tryd.ntmps12
  go_wp2_with (first | (go_at_call 29; refine KR.out.mono ?_; rintro e w1 ⟨rfl, hk1⟩))
  go_ret3
  exact ⟨rfl, hK.trans (hk1.alloc _ _)⟩

set_option maxHeartbeats 2000000 in
set_option maxRecDepth 100000 in
theorem xroot_no (n way fe : Int) (hfe : (fe == 0) = false) (ng : Bool) (ao : Option Addr) (ln c : Nat) (x : Int) (w : World) (KR : Hid (Calls Tryd.prog 29 #[.int .i64 n, .int .i64 way, .slice (some ⟨w.heap.size + 1, 0, none⟩) 1 1] ((w.alloc (.cells #[.bool ng, .slice ao ln c, .int .i64 x] 24)).alloc (.cells #[.bool ng, .slice ao ln c, .int .i64 x] 24)) fun e w' => e = .returned (.tuple #[zround, .int .i64 fe]) ∧ Kept ((w.alloc (.cells #[.bool ng, .slice ao ln c, .int .i64 x] 24)).alloc (.cells #[.bool ng, .slice ao ln c, .int .i64 x] 24)) w')) : Calls Tryd.prog 13 #[.agg #[.bool ng, .slice ao ln c, .int .i64 x], .int .i64 n, .int .i64 way] w fun e w' => e = .returned (.tuple #[.int .i64 0, .bool false, .int .i64 fe]) ∧ Kept w w' := by
  have hK : Kept w ((w.alloc (.cells #[.bool ng, .slice ao ln c, .int .i64 x] 24)).alloc (.cells #[.bool ng, .slice ao ln c, .int .i64 x] 24)) := ((Kept.refl w).alloc _ _).alloc _ _
  go_enter Tryd.func13, Tryd.ntmps13
  go_wp2_with (first | (go_at_call 29; refine KR.out.mono ?_; rintro e w1 ⟨rfl, hk1⟩))
  go_ret3
  exact ⟨rfl, hK.trans (hk1.alloc _ _)⟩

set_option maxHeartbeats 2000000 in
set_option maxRecDepth 100000 in
theorem xquot_no (n way fe : Int) (hfe : (fe == 0) = false) (n1 n2 : Bool) (a1 a2 : Option Addr) (l1 c1 l2 c2 : Nat) (x1 x2 : Int) (w : World) (KR : Hid (Calls Tryd.prog 29 #[.int .i64 n, .int .i64 way, .slice (some ⟨w.heap.size + 2, 0, none⟩) 2 2] (((w.alloc (.cells #[.bool n1, .slice a1 l1 c1, .int .i64 x1] 24)).alloc (.cells #[.bool n2, .slice a2 l2 c2, .int .i64 x2] 24)).alloc (.cells (pairC n1 (.slice a1 l1 c1) x1 n2 (.slice a2 l2 c2) x2) 24)) fun e w' => e = .returned (.tuple #[zround, .int .i64 fe]) ∧ Kept (((w.alloc (.cells #[.bool n1, .slice a1 l1 c1, .int .i64 x1] 24)).alloc (.cells #[.bool n2, .slice a2 l2 c2, .int .i64 x2] 24)).alloc (.cells (pairC n1 (.slice a1 l1 c1) x1 n2 (.slice a2 l2 c2) x2) 24)) w')) : Calls Tryd.prog 9 #[.agg #[.bool n1, .slice a1 l1 c1, .int .i64 x1], .agg #[.bool n2, .slice a2 l2 c2, .int .i64 x2], .int .i64 n, .int .i64 way] w fun e w' => e = .returned (.tuple #[.int .i64 0, .bool false, .int .i64 fe]) ∧ Kept w w' := by
  have hK : Kept w (((w.alloc (.cells #[.bool n1, .slice a1 l1 c1, .int .i64 x1] 24)).alloc (.cells #[.bool n2, .slice a2 l2 c2, .int .i64 x2] 24)).alloc (.cells (pairC n1 (.slice a1 l1 c1) x1 n2 (.slice a2 l2 c2) x2) 24)) := (((Kept.refl w).alloc _ _).alloc _ _).alloc _ _
  go_enter Tryd.func9, Tryd.ntmps9
  go_wp2_with (first | (go_at_call 29; refine KR.out.mono ?_; rintro e w1 ⟨rfl, hk1⟩))
  go_ret3
  exact ⟨rfl, hK.trans (hk1.alloc _ _)⟩
end Go.Proofs.YtbffekcjdcihpaaDoor

namespace Go.Proofs.YtbffekcjdcihpaaDoor
open Go.ChangeShapes Go.WideShapes Go.ChangeAt Go.RowKit
set_option linter.unusedVariables false
set_option linter.unusedSimpArgs false

theorem av1 (a : Nm) (ra : Rg a.mag) (la : a.mag.length < 60000000) (a1 : Option Addr) (c1 : Nat) (w : World) (h1 : Sl w (.slice a1 a.mag.length c1) a.mag) : Hid (∀ u, Kept ((w.alloc (.cells #[.bool a.neg, .slice a1 a.mag.length c1, .int .i64 a.exp] 24)).alloc (.cells #[.bool a.neg, .slice a1 a.mag.length c1, .int .i64 a.exp] 24)) u → Calls Tryd.prog 43 #[.slice (some ⟨w.heap.size + 1, 0, none⟩) 1 1] u fun e w' => e = .returned (.bool (vld a)) ∧ Kept u w') := fun u k => by
  have hK : Kept w ((w.alloc (.cells #[.bool a.neg, .slice a1 a.mag.length c1, .int .i64 a.exp] 24)).alloc (.cells #[.bool a.neg, .slice a1 a.mag.length c1, .int .i64 a.exp] 24)) := ((Kept.refl w).alloc _ _).alloc _ _
  have hb : w.heap.size + 1 < ((w.alloc (.cells #[.bool a.neg, .slice a1 a.mag.length c1, .int .i64 a.exp] 24)).alloc (.cells #[.bool a.neg, .slice a1 a.mag.length c1, .int .i64 a.exp] 24)).heap.size := by simp
  exact (allValid_at (w.heap.size + 1) (Nat.lt_of_lt_of_le hb k.below.size) a.neg a.mag ra (by omega) a1 c1 a.exp (h1.kept (hK.trans k)) ((k.below.cell (p := ⟨w.heap.size + 1, 0, none⟩) hb).trans (by simp [go_sem])) ((k.below.cell (p := ⟨w.heap.size + 1, 1, none⟩) hb).trans (by simp [go_sem])) ((k.below.cell (p := ⟨w.heap.size + 1, 2, none⟩) hb).trans (by simp [go_sem])) (vld a) rfl).out u (Kept.refl _)
theorem av2 (a b : Nm) (ra : Rg a.mag) (rb : Rg b.mag) (la : a.mag.length < 60000000) (lb : b.mag.length < 60000000) (a1 a2 : Option Addr) (c1 c2 : Nat) (w : World) (h1 : Sl w (.slice a1 a.mag.length c1) a.mag) (h2 : Sl w (.slice a2 b.mag.length c2) b.mag) : Hid (∀ u, Kept (((w.alloc (.cells #[.bool a.neg, .slice a1 a.mag.length c1, .int .i64 a.exp] 24)).alloc (.cells #[.bool b.neg, .slice a2 b.mag.length c2, .int .i64 b.exp] 24)).alloc (.cells (pairC a.neg (.slice a1 a.mag.length c1) a.exp b.neg (.slice a2 b.mag.length c2) b.exp) 24)) u → Calls Tryd.prog 43 #[.slice (some ⟨w.heap.size + 2, 0, none⟩) 2 2] u fun e w' => e = .returned (.bool (vld a && vld b)) ∧ Kept u w') := fun u k => by
  have hK : Kept w (((w.alloc (.cells #[.bool a.neg, .slice a1 a.mag.length c1, .int .i64 a.exp] 24)).alloc (.cells #[.bool b.neg, .slice a2 b.mag.length c2, .int .i64 b.exp] 24)).alloc (.cells (pairC a.neg (.slice a1 a.mag.length c1) a.exp b.neg (.slice a2 b.mag.length c2) b.exp) 24)) := (((Kept.refl w).alloc _ _).alloc _ _).alloc _ _
  have hb' : w.heap.size + 2 < (((w.alloc (.cells #[.bool a.neg, .slice a1 a.mag.length c1, .int .i64 a.exp] 24)).alloc (.cells #[.bool b.neg, .slice a2 b.mag.length c2, .int .i64 b.exp] 24)).alloc (.cells (pairC a.neg (.slice a1 a.mag.length c1) a.exp b.neg (.slice a2 b.mag.length c2) b.exp) 24)).heap.size := by simp
  exact allValid_2 u (w.heap.size + 2) 2 a.neg b.neg a1 a2 a.mag.length c1 b.mag.length c2 a.exp b.exp (vld a) (vld b) (Nat.lt_of_lt_of_le hb' k.below.size) ((k.below.cell (p := ⟨w.heap.size + 2, 0, none⟩) hb').trans (by simp [go_sem])) ((k.below.cell (p := ⟨w.heap.size + 2, 1, none⟩) hb').trans (by simp [go_sem])) ((k.below.cell (p := ⟨w.heap.size + 2, 2, none⟩) hb').trans (by simp [go_sem])) ((k.below.cell (p := ⟨w.heap.size + 2, 3, none⟩) hb').trans (by simp [go_sem])) ((k.below.cell (p := ⟨w.heap.size + 2, 4, none⟩) hb').trans (by simp [go_sem])) ((k.below.cell (p := ⟨w.heap.size + 2, 5, none⟩) hb').trans (by simp [go_sem])) (fun v kv => xvalid_any a ra (by omega) (.agg #[.bool a.neg, .slice a1 a.mag.length c1, .int .i64 a.exp]) v ⟨_, rfl, ((h1.kept hK).kept k).kept kv⟩) (fun v kv => xvalid_any b rb (by omega) (.agg #[.bool b.neg, .slice a2 b.mag.length c2, .int .i64 b.exp]) v ⟨_, rfl, ((h2.kept hK).kept k).kept kv⟩)
def wfv (way : Int) : Nat := if way = 0 then 69 else if way = 1 then 70 else 71
theorem fe_ok {n way : Int} {ok : Bool} (h : FE n way ok = 0) : (n = 64 ∨ n = 32) ∧ (way = 0 ∨ way = 1 ∨ way = 2) ∧ ok = true := by
  unfold FE at h
  split at h
  · rename_i hn
    split at h
    · exact absurd h (by decide)
    · split at h
      · rename_i h2 h3
        exact ⟨hn, by omega, h3⟩
      · exact absurd h (by decide)
  · exact absurd h (by decide)
theorem roundingOf_ok (n way : Int) (hn : n = 64 ∨ n = 32) (hw : way = 0 ∨ way = 1 ∨ way = 2) (given : Value) (w : World) (KV : Hid (∀ w', Kept w w' → Calls Tryd.prog 43 #[given] w' fun e w'' => e = .returned (.bool true) ∧ Kept w' w'')) : Calls Tryd.prog 29 #[.int .i64 n, .int .i64 way, given] w fun e w' => e = .returned (.tuple #[.agg #[.int .i64 n, .int .i64 (kprec n), .int .i64 (kleast n), .int .i64 (kinf n), .func (.func (wfv way)) #[] #[]], .int .i64 0]) ∧ Kept w w' := by
  rcases hw with rfl | rfl | rfl
  · exact roundingOf_0 n (kprec n) (kleast n) (kinf n) (fun u => kindOf_ok n hn u) given w KV
  · exact roundingOf_1 n (kprec n) (kleast n) (kinf n) (fun u => kindOf_ok n hn u) given w KV
  · exact roundingOf_2 n (kprec n) (kleast n) (kinf n) (fun u => kindOf_ok n hn u) given w KV

set_option maxHeartbeats 2000000 in
set_option maxRecDepth 100000 in
theorem xquot_div (n pr le fi way : Int) (fv : Nat) (n1 n2 : Bool) (a1 a2 : Option Addr) (l1 c1 l2 c2 : Nat) (x1 x2 : Int) (w : World)
    (KR : Hid (Calls Tryd.prog 29 #[.int .i64 n, .int .i64 way, .slice (some ⟨w.heap.size + 2, 0, none⟩) 2 2] (((w.alloc (.cells #[.bool n1, .slice a1 l1 c1, .int .i64 x1] 24)).alloc (.cells #[.bool n2, .slice a2 l2 c2, .int .i64 x2] 24)).alloc (.cells (pairC n1 (.slice a1 l1 c1) x1 n2 (.slice a2 l2 c2) x2) 24)) fun e w' => e = .returned (.tuple #[.agg #[.int .i64 n, .int .i64 pr, .int .i64 le, .int .i64 fi, .func (.func fv) #[] #[]], .int .i64 0]) ∧ Kept (((w.alloc (.cells #[.bool n1, .slice a1 l1 c1, .int .i64 x1] 24)).alloc (.cells #[.bool n2, .slice a2 l2 c2, .int .i64 x2] 24)).alloc (.cells (pairC n1 (.slice a1 l1 c1) x1 n2 (.slice a2 l2 c2) x2) 24)) w'))
    (KG : Hid (∀ u, Kept w u → Calls Tryd.prog 30 #[.agg #[.bool n2, .slice a2 l2 c2, .int .i64 x2]] u fun e w' => e = .returned (.int .i64 0) ∧ Kept u w')) :
    Calls Tryd.prog 9 #[.agg #[.bool n1, .slice a1 l1 c1, .int .i64 x1], .agg #[.bool n2, .slice a2 l2 c2, .int .i64 x2], .int .i64 n, .int .i64 way] w fun e w' => e = .returned (.tuple #[.int .i64 0, .bool false, .int .i64 8]) ∧ Kept w w' := by
  have hK : Kept w (((w.alloc (.cells #[.bool n1, .slice a1 l1 c1, .int .i64 x1] 24)).alloc (.cells #[.bool n2, .slice a2 l2 c2, .int .i64 x2] 24)).alloc (.cells (pairC n1 (.slice a1 l1 c1) x1 n2 (.slice a2 l2 c2) x2) 24)) := (((Kept.refl w).alloc _ _).alloc _ _).alloc _ _
  go_enter Tryd.func9, Tryd.ntmps9
  go_wp2_with fail
  refine KR.out.mono ?_
  rintro e w1 ⟨rfl, hk1⟩
  have hsz : w.heap.size + 3 ≤ w1.heap.size := by have := hk1.below.size; simpa using this
  have k1' : Kept ((w.alloc (.cells #[.bool n1, .slice a1 l1 c1, .int .i64 x1] 24)).alloc (.cells #[.bool n2, .slice a2 l2 c2, .int .i64 x2] 24)) (w1.alloc (.cells #[.int .i64 n, .int .i64 pr, .int .i64 le, .int .i64 fi, .func (.func fv) #[] #[]] 59)) := ((Kept.refl _).alloc _ _).trans (hk1.alloc _ _)
  have hb1 : w.heap.size + 1 < ((w.alloc (.cells #[.bool n1, .slice a1 l1 c1, .int .i64 x1] 24)).alloc (.cells #[.bool n2, .slice a2 l2 c2, .int .i64 x2] 24)).heap.size := by simp
  have q0 := (k1'.below.cell (p := ⟨w.heap.size + 1, 0, none⟩) hb1).trans (show _ = some (.bool n2) by simp [go_sem])
  have q1 := (k1'.below.cell (p := ⟨w.heap.size + 1, 1, none⟩) hb1).trans (show _ = some (.slice a2 l2 c2) by simp [go_sem])
  have q2 := (k1'.below.cell (p := ⟨w.heap.size + 1, 2, none⟩) hb1).trans (show _ = some (.int .i64 x2) by simp [go_sem])
  clear hsz hb1
  go_wp2_with fail
  refine (KG.out _ (hK.trans (hk1.alloc _ _))).mono ?_
  rintro e w2 ⟨rfl, hk2⟩
  go_wp2_with fail
  go_ret3
  exact ⟨rfl, hK.trans ((hk1.alloc _ _).trans hk2)⟩

set_option maxHeartbeats 2000000 in
set_option maxRecDepth 100000 in
theorem xroot_neg (n pr le fi way : Int) (fv : Nat) (ao : Option Addr) (ln c : Nat) (x : Int) (w : World)
    (KR : Hid (Calls Tryd.prog 29 #[.int .i64 n, .int .i64 way, .slice (some ⟨w.heap.size + 1, 0, none⟩) 1 1] ((w.alloc (.cells #[.bool true, .slice ao ln c, .int .i64 x] 24)).alloc (.cells #[.bool true, .slice ao ln c, .int .i64 x] 24)) fun e w' => e = .returned (.tuple #[.agg #[.int .i64 n, .int .i64 pr, .int .i64 le, .int .i64 fi, .func (.func fv) #[] #[]], .int .i64 0]) ∧ Kept ((w.alloc (.cells #[.bool true, .slice ao ln c, .int .i64 x] 24)).alloc (.cells #[.bool true, .slice ao ln c, .int .i64 x] 24)) w')) :
    Calls Tryd.prog 13 #[.agg #[.bool true, .slice ao ln c, .int .i64 x], .int .i64 n, .int .i64 way] w fun e w' => e = .returned (.tuple #[.int .i64 0, .bool false, .int .i64 9]) ∧ Kept w w' := by
  have hK : Kept w ((w.alloc (.cells #[.bool true, .slice ao ln c, .int .i64 x] 24)).alloc (.cells #[.bool true, .slice ao ln c, .int .i64 x] 24)) := ((Kept.refl w).alloc _ _).alloc _ _
  go_enter Tryd.func13, Tryd.ntmps13
  go_wp2_with fail
  refine KR.out.mono ?_
  rintro e w1 ⟨rfl, hk1⟩
  have hsz : w.heap.size + 2 ≤ w1.heap.size := by have := hk1.below.size; simpa using this
  have k1' : Kept (w.alloc (.cells #[.bool true, .slice ao ln c, .int .i64 x] 24)) (w1.alloc (.cells #[.int .i64 n, .int .i64 pr, .int .i64 le, .int .i64 fi, .func (.func fv) #[] #[]] 59)) := ((Kept.refl _).alloc _ _).trans (hk1.alloc _ _)
  have hb1 : w.heap.size < (w.alloc (.cells #[.bool true, .slice ao ln c, .int .i64 x] 24)).heap.size := by simp
  have q0 := (k1'.below.cell (p := ⟨w.heap.size, 0, none⟩) hb1).trans (show _ = some (.bool true) by simp [go_sem])
  clear hsz hb1
  go_wp2_with fail
  go_ret3
  exact ⟨rfl, hK.trans (hk1.alloc _ _)⟩

/- Round -/
theorem round_ans (n way : Int) (a : Nm) (ra : Rg a.mag) (la : a.mag.length < 60000000) (a1 : Option Addr) (c1 : Nat) (w : World) (hT : Tab w) (h1 : Sl w (.slice a1 a.mag.length c1) a.mag) (q : Int) (o : Bool) (fe : Int) (hfe : fe = FE n way (vld a)) (hno : fe ≠ 0 → q = 0 ∧ o = false) (hok : fe = 0 → q = rzN n way a ∧ o = oxN n way a) : Calls Tryd.prog 12 #[.agg #[.bool a.neg, .slice a1 a.mag.length c1, .int .i64 a.exp], .int .i64 n, .int .i64 way] w fun e w' => e = .returned (.tuple #[.int .i64 q, .bool o, .int .i64 fe]) ∧ Kept w w' := by
  by_cases h0 : fe = 0
  · obtain ⟨rfl, rfl⟩ := hok h0
    obtain ⟨hn, hw, hv⟩ := fe_ok (hfe.symm.trans h0)
    rw [h0]
    exact roundz n way hn hw a hv a1 c1 w hT h1
  · obtain ⟨rfl, rfl⟩ := hno h0
    exact xround_no n way fe (by simpa using h0) a.neg a1 a.mag.length c1 a.exp w (by rw [hfe]; exact roundingOf_no n way (vld a) (by rw [← hfe]; exact h0) _ _ (av1 a ra la a1 c1 w h1))
/- Quot, where it is refused, by 0, and of 0 -/
theorem quot_no (n way : Int) (a b : Nm) (ra : Rg a.mag) (rb : Rg b.mag) (la : a.mag.length < 60000000) (lb : b.mag.length < 60000000) (a1 a2 : Option Addr) (c1 c2 : Nat) (w : World) (h1 : Sl w (.slice a1 a.mag.length c1) a.mag) (h2 : Sl w (.slice a2 b.mag.length c2) b.mag) (hT : Tab w) (fe : Int) (hfe : fe = FE n way (vld a && vld b)) (h0 : fe ≠ 0) : Calls Tryd.prog 9 #[.agg #[.bool a.neg, .slice a1 a.mag.length c1, .int .i64 a.exp], .agg #[.bool b.neg, .slice a2 b.mag.length c2, .int .i64 b.exp], .int .i64 n, .int .i64 way] w fun e w' => e = .returned (.tuple #[.int .i64 0, .bool false, .int .i64 fe]) ∧ Kept w w' :=
  xquot_no n way fe (by simpa using h0) a.neg b.neg a1 a2 a.mag.length c1 b.mag.length c2 a.exp b.exp w (by rw [hfe]; exact roundingOf_no n way (vld a && vld b) (by rw [← hfe]; exact h0) _ _ (av2 a b ra rb la lb a1 a2 c1 c2 w h1 h2))
theorem quot_div (n way : Int) (hn : n = 64 ∨ n = 32) (hw : way = 0 ∨ way = 1 ∨ way = 2) (a b : Nm) (ra : Rg a.mag) (rb : Rg b.mag) (la : a.mag.length < 60000000) (lb : b.mag.length < 60000000) (a1 a2 : Option Addr) (c1 c2 : Nat) (w : World) (h1 : Sl w (.slice a1 a.mag.length c1) a.mag) (h2 : Sl w (.slice a2 b.mag.length c2) b.mag) (ha : vld a = true) (hb : vld b = true) (hbm : b.mag.length = 0) : Calls Tryd.prog 9 #[.agg #[.bool a.neg, .slice a1 a.mag.length c1, .int .i64 a.exp], .agg #[.bool b.neg, .slice a2 b.mag.length c2, .int .i64 b.exp], .int .i64 n, .int .i64 way] w fun e w' => e = .returned (.tuple #[.int .i64 0, .bool false, .int .i64 8]) ∧ Kept w w' := by
  have hv := av2 a b ra rb la lb a1 a2 c1 c2 w h1 h2
  rw [ha, hb] at hv
  refine xquot_div n _ _ _ way _ a.neg b.neg a1 a2 a.mag.length c1 b.mag.length c2 a.exp b.exp w (roundingOf_ok n way hn hw _ _ hv) (fun u _ => ?_)
  have := signOf_any b.neg a2 b.mag.length c2 b.exp u
  rw [if_pos hbm] at this
  exact this
theorem quot_nought (n way : Int) (hn : n = 64 ∨ n = 32) (hw : way = 0 ∨ way = 1 ∨ way = 2) (a b : Nm) (ra : Rg a.mag) (rb : Rg b.mag) (la : a.mag.length < 60000000) (lb : b.mag.length < 60000000) (a1 a2 : Option Addr) (c1 c2 : Nat) (w : World) (h1 : Sl w (.slice a1 a.mag.length c1) a.mag) (h2 : Sl w (.slice a2 b.mag.length c2) b.mag) (ha : vld a = true) (hb : vld b = true) (ham : a.mag.length = 0) (hbm : b.mag.length ≠ 0) : Calls Tryd.prog 9 #[.agg #[.bool a.neg, .slice a1 a.mag.length c1, .int .i64 a.exp], .agg #[.bool b.neg, .slice a2 b.mag.length c2, .int .i64 b.exp], .int .i64 n, .int .i64 way] w fun e w' => e = .returned (.tuple #[.int .i64 0, .bool false, .int .i64 0]) ∧ Kept w w' := by
  have hv := av2 a b ra rb la lb a1 a2 c1 c2 w h1 h2
  rw [ha, hb] at hv
  have KG : ∀ u, Kept w u → _ := fun u _ => signOf_any b.neg a2 b.mag.length c2 b.exp u
  rw [if_neg hbm] at KG
  have hsg : ((if b.neg = true then (-1 : Int) else 1) == 0) = false := by cases b.neg <;> rfl
  have KQ : ∀ u, Kept w u → _ := fun u _ => quotient_nil a.neg a1 c1 a.exp b.neg a2 b.mag.length c2 b.exp u
  rw [← ham] at KQ
  have KR := roundingOf_ok n way hn hw _ _ hv
  rcases hw with rfl | rfl | rfl
  · exact xquot_1 n _ _ _ a.neg b.neg a1 a2 a.mag.length c1 b.mag.length c2 a.exp b.exp _ _ _ hsg _ _ _ _ w KR KG KQ (fun u _ => round_zero n _ _ _ _ 0 false false u)
  · exact xquot_2 n _ _ _ a.neg b.neg a1 a2 a.mag.length c1 b.mag.length c2 a.exp b.exp _ _ _ hsg _ _ _ _ w KR KG KQ (fun u _ => round_zero n _ _ _ _ 0 false false u)
  · exact xquot_3 n _ _ _ a.neg b.neg a1 a2 a.mag.length c1 b.mag.length c2 a.exp b.exp _ _ _ hsg _ _ _ _ w KR KG KQ (fun u _ => round_zero n _ _ _ _ 0 false false u)
/- Root, where it is refused, of what is below 0, and of 0 -/
theorem root_no (n way : Int) (a : Nm) (ra : Rg a.mag) (la : a.mag.length < 60000000) (a1 : Option Addr) (c1 : Nat) (w : World) (h1 : Sl w (.slice a1 a.mag.length c1) a.mag) (fe : Int) (hfe : fe = FE n way (vld a)) (h0 : fe ≠ 0) : Calls Tryd.prog 13 #[.agg #[.bool a.neg, .slice a1 a.mag.length c1, .int .i64 a.exp], .int .i64 n, .int .i64 way] w fun e w' => e = .returned (.tuple #[.int .i64 0, .bool false, .int .i64 fe]) ∧ Kept w w' :=
  xroot_no n way fe (by simpa using h0) a.neg a1 a.mag.length c1 a.exp w (by rw [hfe]; exact roundingOf_no n way (vld a) (by rw [← hfe]; exact h0) _ _ (av1 a ra la a1 c1 w h1))
theorem root_below (n way : Int) (hn : n = 64 ∨ n = 32) (hw : way = 0 ∨ way = 1 ∨ way = 2) (a : Nm) (ra : Rg a.mag) (la : a.mag.length < 60000000) (a1 : Option Addr) (c1 : Nat) (w : World) (h1 : Sl w (.slice a1 a.mag.length c1) a.mag) (ha : vld a = true) (hng : a.neg = true) : Calls Tryd.prog 13 #[.agg #[.bool a.neg, .slice a1 a.mag.length c1, .int .i64 a.exp], .int .i64 n, .int .i64 way] w fun e w' => e = .returned (.tuple #[.int .i64 0, .bool false, .int .i64 9]) ∧ Kept w w' := by
  have hv := av1 a ra la a1 c1 w h1
  rw [ha, hng] at hv
  rw [hng]
  exact xroot_neg n _ _ _ way _ a1 a.mag.length c1 a.exp w (roundingOf_ok n way hn hw _ _ hv)
theorem root_nought (n way : Int) (hn : n = 64 ∨ n = 32) (hw : way = 0 ∨ way = 1 ∨ way = 2) (a : Nm) (ra : Rg a.mag) (la : a.mag.length < 60000000) (a1 : Option Addr) (c1 : Nat) (w : World) (h1 : Sl w (.slice a1 a.mag.length c1) a.mag) (ha : vld a = true) (ham : a.mag.length = 0) (hng : a.neg = false) : Calls Tryd.prog 13 #[.agg #[.bool a.neg, .slice a1 a.mag.length c1, .int .i64 a.exp], .int .i64 n, .int .i64 way] w fun e w' => e = .returned (.tuple #[.int .i64 0, .bool false, .int .i64 0]) ∧ Kept w w' := by
  have hv := av1 a ra la a1 c1 w h1
  rw [ha, hng] at hv
  rw [hng]
  have KQ : ∀ u, Kept w u → _ := fun u _ => root_nil false a1 c1 a.exp u
  rw [← ham] at KQ
  have KR : Hid (∀ u, Kept ((w.alloc (.cells #[.bool false, .slice a1 a.mag.length c1, .int .i64 a.exp] 24)).alloc (.cells #[.bool false, .slice a1 a.mag.length c1, .int .i64 a.exp] 24)) u → Calls Tryd.prog 29 #[.int .i64 n, .int .i64 way, .slice (some ⟨w.heap.size + 1, 0, none⟩) 1 1] u fun e w' => e = .returned (.tuple #[.agg #[.int .i64 n, .int .i64 (kprec n), .int .i64 (kleast n), .int .i64 (kinf n), .func (.func (wfv way)) #[] #[]], .int .i64 0]) ∧ Kept u w') := fun u k => roundingOf_ok n way hn hw _ u (fun u2 k2 => hv.out u2 (k.trans k2))
  rcases hw with rfl | rfl | rfl
  · exact xroot_1 n _ _ _ a1 a.mag.length c1 a.exp _ _ #[] _ _ _ _ w KR KQ (fun u _ => round_zero n _ _ _ _ 0 false false u)
  · exact xroot_2 n _ _ _ a1 a.mag.length c1 a.exp _ _ #[] _ _ _ _ w KR KQ (fun u _ => round_zero n _ _ _ _ 0 false false u)
  · exact xroot_3 n _ _ _ a1 a.mag.length c1 a.exp _ _ #[] _ _ _ _ w KR KQ (fun u _ => round_zero n _ _ _ _ 0 false false u)
end Go.Proofs.YtbffekcjdcihpaaDoor

namespace Go.Proofs.YtbffekcjdcihpaaDoor
open Go.ChangeShapes Go.WideShapes Go.ChangeAt Go.RowKit
set_option linter.unusedVariables false
set_option linter.unusedSimpArgs false

set_option maxHeartbeats 1000000 in
theorem told_true (q : Int) (o : Bool) (fe u : Int) (odd : Bool) (hno : fe ≠ 0 → q = 0 ∧ o = false) (hok : fe = 0 → u = q ∧ odd = o) (w : World) : Calls Tryd.prog 18 #[.int .i64 q, .bool o, .int .i64 fe, .int .i64 fe, .int .i64 u, .bool odd] w fun e w' => e = .returned (.bool true) ∧ Kept w w' := by
  by_cases h : fe = 0
  · obtain ⟨rfl, rfl⟩ := hok h
    subst h
    clear hno hok
    have e1 : (u == u) = true := by simp
    have e2 : (odd == odd) = true := by simp
    go_enter Tryd.func18, Tryd.ntmps18
    go_wp2
    go_ret
    exact ⟨rfl, Kept.refl _⟩
  · obtain ⟨rfl, rfl⟩ := hno h
    clear hno hok
    have e1 : (fe == 0) = false := by simpa using h
    have e2 : (fe == fe) = true := by simp
    go_enter Tryd.func18, Tryd.ntmps18
    go_wp2
    go_ret
    exact ⟨rfl, Kept.refl _⟩

set_option maxHeartbeats 1000000 in
theorem rway_any (way : Int) (w : World) : Calls Tryd.prog 39 #[.int .i64 way] w fun e w' => e = .returned (.bool (decide (0 ≤ way ∧ way ≤ 2))) ∧ Kept w w' := by
  by_cases h : 0 ≤ way
  · have h1 : decide (0 ≤ way) = true := decide_eq_true h
    have h2 : decide (0 ≤ way ∧ way ≤ 2) = decide (way ≤ 2) := decide_eq_decide.2 ⟨fun g => g.2, fun g => ⟨h, g⟩⟩
    rw [h2]
    clear h2
    go_enter Tryd.func39, Tryd.ntmps39
    go_wp2
    go_ret
    exact ⟨rfl, Kept.refl _⟩
  · have h1 : decide (0 ≤ way) = false := decide_eq_false h
    rw [show decide (0 ≤ way ∧ way ≤ 2) = false from decide_eq_false (fun g => h g.1)]
    go_enter Tryd.func39, Tryd.ntmps39
    go_wp2
    go_ret
    exact ⟨rfl, Kept.refl _⟩

def knd (n : Int) : Value := if n = 64 then .agg #[.int .i64 64, .int .i64 53, .int .i64 4503599627370496, .int .i64 2047, .int .i64 (-1074), .int .i64 1024, .int .i64 9218868437227405312, .int .i64 (-9223372036854775808), .int .i64 9221120237041090561] else .agg #[.int .i64 32, .int .i64 24, .int .i64 8388608, .int .i64 255, .int .i64 (-149), .int .i64 128, .int .i64 2139095040, .int .i64 2147483648, .int .i64 2143289345]
theorem of_knd (n : Int) (hn : n = 64 ∨ n = 32) (w : World) : Calls Tryd.prog 38 #[.int .i64 n] w fun e w' => e = .returned (.tuple #[knd n, .bool true]) ∧ Kept w w' := by
  rcases hn with rfl | rfl
  · exact of_64 w
  · exact of_32 w
theorem knd_is (n : Int) (hn : n = 64 ∨ n = 32) : ∃ k0 p k2 k3 k4 k5 k6 k7 k8 : Int, knd n = .agg #[.int .i64 k0, .int .i64 p, .int .i64 k2, .int .i64 k3, .int .i64 k4, .int .i64 k5, .int .i64 k6, .int .i64 k7, .int .i64 k8] := by
  rcases hn with rfl | rfl
  · exact ⟨_, _, _, _, _, _, _, _, _, rfl⟩
  · exact ⟨_, _, _, _, _, _, _, _, _, rfl⟩

set_option maxHeartbeats 1000000 in
theorem rfirst_no (n way : Int) (ok : Bool) (hn : ¬ (n = 64 ∨ n = 32)) (w : World) : Calls Tryd.prog 16 #[.int .i64 n, .int .i64 way, .bool ok] w fun e w' => e = .returned (.int .i64 3) ∧ Kept w w' := by
  have KO : Hid (∀ u, Calls Tryd.prog 38 #[.int .i64 n] u fun e w' => e = .returned (.tuple #[.agg #[.int .i64 0, .int .i64 0, .int .i64 0, .int .i64 0, .int .i64 0, .int .i64 0, .int .i64 0, .int .i64 0, .int .i64 0], .bool false]) ∧ Kept u w') := fun u => of_0 n (by simp; omega) (by simp; omega) u
  go_enter Tryd.func16, Tryd.ntmps16
  go_wp2_with (first | (go_at_call 38; refine (KO.out _).mono ?_; rintro e w1 ⟨rfl, hk1⟩))
  go_ret
  exact ⟨rfl, hk1.alloc _ _⟩
set_option maxHeartbeats 1000000 in
theorem rfirst_ok (n way : Int) (ok : Bool) (hn : n = 64 ∨ n = 32) (f : Int) (hf : f = FE n way ok) (w : World) : Calls Tryd.prog 16 #[.int .i64 n, .int .i64 way, .bool ok] w fun e w' => e = .returned (.int .i64 f) ∧ Kept w w' := by
  obtain ⟨k0, p, k2, k3, k4, k5, k6, k7, k8, hk⟩ := knd_is n hn
  have KO : Hid (∀ u, Calls Tryd.prog 38 #[.int .i64 n] u fun e w' => e = .returned (.tuple #[.agg #[.int .i64 k0, .int .i64 p, .int .i64 k2, .int .i64 k3, .int .i64 k4, .int .i64 k5, .int .i64 k6, .int .i64 k7, .int .i64 k8], .bool true]) ∧ Kept u w') := fun u => by
    have := of_knd n hn u
    rw [hk] at this
    exact this
  unfold FE at hf
  rw [if_pos hn] at hf
  by_cases h : 0 ≤ way ∧ way ≤ 2
  · have KW : Hid (∀ u, Calls Tryd.prog 39 #[.int .i64 way] u fun e w' => e = .returned (.bool true) ∧ Kept u w') := fun u => by
      have := rway_any way u
      rw [decide_eq_true h] at this
      exact this
    rw [if_neg (by omega)] at hf
    cases ok with
    | true =>
      rw [if_pos rfl] at hf
      subst hf
      go_enter Tryd.func16, Tryd.ntmps16
      go_wp2_with (first | (go_at_call 38; refine (KO.out _).mono ?_; rintro e w1 ⟨rfl, hk1⟩) | (go_at_call 39; refine (KW.out _).mono ?_; rintro e w2 ⟨rfl, hk2⟩))
      go_ret
      exact ⟨rfl, (hk1.alloc _ _).trans hk2⟩
    | false =>
      rw [if_neg (by decide)] at hf
      subst hf
      go_enter Tryd.func16, Tryd.ntmps16
      go_wp2_with (first | (go_at_call 38; refine (KO.out _).mono ?_; rintro e w1 ⟨rfl, hk1⟩) | (go_at_call 39; refine (KW.out _).mono ?_; rintro e w2 ⟨rfl, hk2⟩))
      go_ret
      exact ⟨rfl, (hk1.alloc _ _).trans hk2⟩
  · have KW : Hid (∀ u, Calls Tryd.prog 39 #[.int .i64 way] u fun e w' => e = .returned (.bool false) ∧ Kept u w') := fun u => by
      have := rway_any way u
      rw [decide_eq_false h] at this
      exact this
    rw [if_pos (by omega)] at hf
    subst hf
    go_enter Tryd.func16, Tryd.ntmps16
    go_wp2_with (first | (go_at_call 38; refine (KO.out _).mono ?_; rintro e w1 ⟨rfl, hk1⟩) | (go_at_call 39; refine (KW.out _).mono ?_; rintro e w2 ⟨rfl, hk2⟩))
    go_ret
    exact ⟨rfl, (hk1.alloc _ _).trans hk2⟩
theorem rfirst_any (n way : Int) (ok : Bool) (w : World) : Calls Tryd.prog 16 #[.int .i64 n, .int .i64 way, .bool ok] w fun e w' => e = .returned (.int .i64 (FE n way ok)) ∧ Kept w w' := by
  by_cases hn : n = 64 ∨ n = 32
  · exact rfirst_ok n way ok hn _ rfl w
  · have := rfirst_no n way ok hn w
    unfold FE
    rw [if_neg hn]
    exact this

set_option maxHeartbeats 1000000 in
theorem ref2round (n way : Int) (hn : n = 64 ∨ n = 32) (ng : Bool) (ao : Option Addr) (ln c : Nat) (x b : Int) (od : Bool) (w : World) (KT : Hid (∀ u, Kept w u → Calls Tryd.prog 40 #[knd n, .agg #[.bool ng, .slice ao ln c, .int .i64 x], .int .i64 way] u fun e w' => e = .returned (.tuple #[.int .i64 b, .bool od]) ∧ Kept u w')) : Calls Tryd.prog 17 #[.agg #[.bool ng, .slice ao ln c, .int .i64 x], .int .i64 n, .int .i64 way] w fun e w' => e = .returned (.tuple #[.int .i64 b, .bool od]) ∧ Kept w w' := by
  obtain ⟨k0, p, k2, k3, k4, k5, k6, k7, k8, hk⟩ := knd_is n hn
  have KO : Hid (∀ u, Calls Tryd.prog 38 #[.int .i64 n] u fun e w' => e = .returned (.tuple #[.agg #[.int .i64 k0, .int .i64 p, .int .i64 k2, .int .i64 k3, .int .i64 k4, .int .i64 k5, .int .i64 k6, .int .i64 k7, .int .i64 k8], .bool true]) ∧ Kept u w') := fun u => by
    have := of_knd n hn u
    rw [hk] at this
    exact this
  rw [hk] at KT
  have hK : Kept w (w.alloc (.cells #[.bool ng, .slice ao ln c, .int .i64 x] 24)) := (Kept.refl w).alloc _ _
  go_enter Tryd.func17, Tryd.ntmps17
  go_wp2_with fail
  refine (KO.out _).mono ?_
  rintro e w1 ⟨rfl, hk1⟩
  have hk2 := hk1.alloc #[.int .i64 k0, .int .i64 p, .int .i64 k2, .int .i64 k3, .int .i64 k4, .int .i64 k5, .int .i64 k6, .int .i64 k7, .int .i64 k8] 69
  have hb : w.heap.size < (w.alloc (.cells #[.bool ng, .slice ao ln c, .int .i64 x] 24)).heap.size := by simp
  have q0 := (hk2.below.cell (p := ⟨w.heap.size, 0, none⟩) hb).trans (show _ = some (.bool ng) by simp [go_sem])
  have q1 := (hk2.below.cell (p := ⟨w.heap.size, 1, none⟩) hb).trans (show _ = some (.slice ao ln c) by simp [go_sem])
  have q2 := (hk2.below.cell (p := ⟨w.heap.size, 2, none⟩) hb).trans (show _ = some (.int .i64 x) by simp [go_sem])
  clear hb
  go_wp2_with fail
  refine (KT.out _ (hK.trans hk2)).mono ?_
  rintro e w2 ⟨rfl, hk3⟩
  go_wp2_with fail
  go_ret2
  exact ⟨rfl, hK.trans (hk2.trans hk3)⟩

set_option maxHeartbeats 1000000 in
theorem ref2root (n way : Int) (hn : n = 64 ∨ n = 32) (ng : Bool) (ao : Option Addr) (ln c : Nat) (x b : Int) (od : Bool) (w : World) (KT : Hid (∀ u, Kept w u → Calls Tryd.prog 42 #[knd n, .agg #[.bool ng, .slice ao ln c, .int .i64 x], .int .i64 way] u fun e w' => e = .returned (.tuple #[.int .i64 b, .bool od]) ∧ Kept u w')) : Calls Tryd.prog 20 #[.agg #[.bool ng, .slice ao ln c, .int .i64 x], .int .i64 n, .int .i64 way] w fun e w' => e = .returned (.tuple #[.int .i64 b, .bool od]) ∧ Kept w w' := by
  obtain ⟨k0, p, k2, k3, k4, k5, k6, k7, k8, hk⟩ := knd_is n hn
  have KO : Hid (∀ u, Calls Tryd.prog 38 #[.int .i64 n] u fun e w' => e = .returned (.tuple #[.agg #[.int .i64 k0, .int .i64 p, .int .i64 k2, .int .i64 k3, .int .i64 k4, .int .i64 k5, .int .i64 k6, .int .i64 k7, .int .i64 k8], .bool true]) ∧ Kept u w') := fun u => by
    have := of_knd n hn u
    rw [hk] at this
    exact this
  rw [hk] at KT
  have hK : Kept w (w.alloc (.cells #[.bool ng, .slice ao ln c, .int .i64 x] 24)) := (Kept.refl w).alloc _ _
  go_enter Tryd.func20, Tryd.ntmps20
  go_wp2_with fail
  refine (KO.out _).mono ?_
  rintro e w1 ⟨rfl, hk1⟩
  have hk2 := hk1.alloc #[.int .i64 k0, .int .i64 p, .int .i64 k2, .int .i64 k3, .int .i64 k4, .int .i64 k5, .int .i64 k6, .int .i64 k7, .int .i64 k8] 69
  have hb : w.heap.size < (w.alloc (.cells #[.bool ng, .slice ao ln c, .int .i64 x] 24)).heap.size := by simp
  have q0 := (hk2.below.cell (p := ⟨w.heap.size, 0, none⟩) hb).trans (show _ = some (.bool ng) by simp [go_sem])
  have q1 := (hk2.below.cell (p := ⟨w.heap.size, 1, none⟩) hb).trans (show _ = some (.slice ao ln c) by simp [go_sem])
  have q2 := (hk2.below.cell (p := ⟨w.heap.size, 2, none⟩) hb).trans (show _ = some (.int .i64 x) by simp [go_sem])
  clear hb
  go_wp2_with fail
  refine (KT.out _ (hK.trans hk2)).mono ?_
  rintro e w2 ⟨rfl, hk3⟩
  go_wp2_with fail
  go_ret2
  exact ⟨rfl, hK.trans (hk2.trans hk3)⟩

set_option maxHeartbeats 1000000 in
theorem ref2quot (n way : Int) (hn : n = 64 ∨ n = 32) (n1 n2 : Bool) (a1 a2 : Option Addr) (l1 c1 l2 c2 : Nat) (x1 x2 b : Int) (od : Bool) (w : World) (KT : Hid (∀ u, Kept w u → Calls Tryd.prog 41 #[knd n, .agg #[.bool n1, .slice a1 l1 c1, .int .i64 x1], .agg #[.bool n2, .slice a2 l2 c2, .int .i64 x2], .int .i64 way] u fun e w' => e = .returned (.tuple #[.int .i64 b, .bool od]) ∧ Kept u w')) : Calls Tryd.prog 19 #[.agg #[.bool n1, .slice a1 l1 c1, .int .i64 x1], .agg #[.bool n2, .slice a2 l2 c2, .int .i64 x2], .int .i64 n, .int .i64 way] w fun e w' => e = .returned (.tuple #[.int .i64 b, .bool od]) ∧ Kept w w' := by
  obtain ⟨k0, p, k2, k3, k4, k5, k6, k7, k8, hk⟩ := knd_is n hn
  have KO : Hid (∀ u, Calls Tryd.prog 38 #[.int .i64 n] u fun e w' => e = .returned (.tuple #[.agg #[.int .i64 k0, .int .i64 p, .int .i64 k2, .int .i64 k3, .int .i64 k4, .int .i64 k5, .int .i64 k6, .int .i64 k7, .int .i64 k8], .bool true]) ∧ Kept u w') := fun u => by
    have := of_knd n hn u
    rw [hk] at this
    exact this
  rw [hk] at KT
  obtain ⟨X, hX⟩ : ∃ X, X = (w.alloc (.cells #[.bool n1, .slice a1 l1 c1, .int .i64 x1] 24)).alloc (.cells #[.bool n2, .slice a2 l2 c2, .int .i64 x2] 24) := ⟨_, rfl⟩
  have hK : Kept w X := by rw [hX]; exact ((Kept.refl w).alloc _ _).alloc _ _
  have HQ : Hid (∀ u, Kept X u → (u.cell? ⟨w.heap.size, 0, none⟩ = some (.bool n1) ∧ u.cell? ⟨w.heap.size, 1, none⟩ = some (.slice a1 l1 c1) ∧ u.cell? ⟨w.heap.size, 2, none⟩ = some (.int .i64 x1)) ∧ u.cell? ⟨w.heap.size + 1, 0, none⟩ = some (.bool n2) ∧ u.cell? ⟨w.heap.size + 1, 1, none⟩ = some (.slice a2 l2 c2) ∧ u.cell? ⟨w.heap.size + 1, 2, none⟩ = some (.int .i64 x2)) := fun u k => by
    have hb0 : w.heap.size < X.heap.size := by rw [hX]; simp [go_sem]
    have hb1 : w.heap.size + 1 < X.heap.size := by rw [hX]; simp
    refine ⟨⟨(k.below.cell (p := ⟨w.heap.size, 0, none⟩) hb0).trans ?_, (k.below.cell (p := ⟨w.heap.size, 1, none⟩) hb0).trans ?_, (k.below.cell (p := ⟨w.heap.size, 2, none⟩) hb0).trans ?_⟩, (k.below.cell (p := ⟨w.heap.size + 1, 0, none⟩) hb1).trans ?_, (k.below.cell (p := ⟨w.heap.size + 1, 1, none⟩) hb1).trans ?_, (k.below.cell (p := ⟨w.heap.size + 1, 2, none⟩) hb1).trans ?_⟩
    all_goals
      rw [hX]
      simp [go_sem]
  go_enter Tryd.func19, Tryd.ntmps19
  go_upto_region 1 with fail
  rw [← hX]
  clear hX
  go_wp2_with fail
  refine (KO.out _).mono ?_
  rintro e w1 ⟨rfl, hk1⟩
  have hk2 := hk1.alloc #[.int .i64 k0, .int .i64 p, .int .i64 k2, .int .i64 k3, .int .i64 k4, .int .i64 k5, .int .i64 k6, .int .i64 k7, .int .i64 k8] 69
  obtain ⟨⟨q0, q1, q2⟩, q3, q4, q5⟩ := HQ.out _ hk2
  go_wp2_with fail
  refine (KT.out _ (hK.trans hk2)).mono ?_
  rintro e w2 ⟨rfl, hk3⟩
  go_wp2_with fail
  go_ret2
  exact ⟨rfl, hK.trans (hk2.trans hk3)⟩
end Go.Proofs.YtbffekcjdcihpaaDoor
