/- The walk of exact's told: what is reckoned, or it gives up. -/
import Derived.Test.YtkmengfmiamdaaaDoorD6
import Derived.Defers
import Derived.Recover
namespace Go.Proofs.YtkmengfmiamdaaaDoor
open Go.ChangeShapes Go.WideShapes Go.ChangeAt Go.RowKit
set_option linter.unusedVariables false

set_option maxHeartbeats 400000 in
theorem catch_idle (p q : Addr) (w : World) : CallsD Tryd.prog 71 #[.pointer (some p), .pointer (some q)] .returning w fun e u' w' => e = .returned (.tuple #[]) ∧ u' = .returning ∧ w' = w := by
  refine callsD_of_wpS Tryd.func71 rfl fun c₀ cs hu => ?_
  apply wpS_seq
  apply wpS_region
  simp [wpOpsS, go_sem, recoverD, hu, Tryd.ntmps71, Exit.thenS]
  refine wpS_cond (t := false) (by simp [Act.eval, Array.replicate]) ?_
  simp only [Bool.false_eq_true, if_false]
  refine wpS_of_wp (wp_skip ?_)
  cases c₀
  simp_all [bodyPostS, results, Tryd.results71]

set_option maxHeartbeats 400000 in
theorem catch_up (P B : Nat) (n : Bool) (ao : Option Addr) (l c : Nat) (x y : Int) (u : TypeId) (pv : Value) (older : List PanicEntry) (w : World)
    (c0 : w.cell? ⟨P, 0, none⟩ = some (.bool n)) (c1 : w.cell? ⟨P, 1, none⟩ = some (.slice ao l c)) (c2 : w.cell? ⟨P, 2, none⟩ = some (.int .i64 x)) (c3 : w.cell? ⟨B, 0, none⟩ = some (.int .i64 y)) (hz : ∀ o, w.frozen? ⟨P, o, none⟩ = false) (hz2 : w.frozen? ⟨B, 0, none⟩ = false) (hne : P ≠ B) :
    CallsD Tryd.prog 71 #[.pointer (some ⟨P, 0, none⟩), .pointer (some ⟨B, 0, none⟩)] (.panicking ({ v := .iface u pv, recovered := false } :: older)) w fun e u' w' =>
      e = .returned (.tuple #[]) ∧ u' = .panicking ({ v := .iface u pv, recovered := true } :: older) ∧ w' = (((w.setCell ⟨P, 0, none⟩ (.bool false)).setCell ⟨P, 1, none⟩ (.slice none 0 0)).setCell ⟨P, 2, none⟩ (.int .i64 0)).setCell ⟨B, 0, none⟩ (.int .i64 2) := by
  refine callsD_of_wpS Tryd.func71 rfl fun c₀ cs hu => ?_
  apply wpS_seq
  apply wpS_region
  simp [wpOpsS, go_sem, recoverD, hu, Tryd.ntmps71, Exit.thenS]
  refine wpS_cond (t := true) (by simp [Act.eval, Array.replicate]) ?_
  simp only [if_true]
  apply wpS_region
  simp [wpOpsS, go_sem, c0, c1, c2, c3, hz, hz2, bodyPostS, results, Tryd.results71]

abbrev toldW (w : World) : World := (w.alloc (.cells #[.bool false, .slice none 0 0, .int .i64 0] 31)).alloc (.cells #[.int .i64 0] 35)
theorem told_cells {w w1 : World} (h : Kept (toldW w) w1) : w1.cell? ⟨w.heap.size, 0, none⟩ = some (.bool false) ∧ w1.cell? ⟨w.heap.size, 1, none⟩ = some (.slice none 0 0) ∧ w1.cell? ⟨w.heap.size, 2, none⟩ = some (.int .i64 0) ∧ w1.cell? ⟨w.heap.size + 1, 0, none⟩ = some (.int .i64 0) ∧ (∀ o, w1.frozen? ⟨w.heap.size, o, none⟩ = false) ∧ w1.frozen? ⟨w.heap.size + 1, 0, none⟩ = false :=
  ⟨(h.below.cell (p := ⟨w.heap.size, 0, none⟩) (by simp; omega)).trans (by simp [go_sem]), (h.below.cell (p := ⟨w.heap.size, 1, none⟩) (by simp; omega)).trans (by simp [go_sem]), (h.below.cell (p := ⟨w.heap.size, 2, none⟩) (by simp; omega)).trans (by simp [go_sem]), (h.below.cell (p := ⟨w.heap.size + 1, 0, none⟩) (by simp)).trans (by simp [go_sem]), fun o => (h.frozen _).trans (by simp [go_sem]), (h.frozen _).trans (by simp [go_sem])⟩
theorem toldW_kept (w : World) : Kept w (toldW w) := ((Kept.refl w).alloc _ _).alloc _ _

set_option maxHeartbeats 1000000 in
theorem told_bad (fv : Value) (given : Value) (w : World)
    (KV : Hid (∀ w', Kept w w' → Calls Tryd.prog 45 #[given] w' fun e w'' => e = .returned (.bool false) ∧ Kept w' w'')) :
    Calls Tryd.prog 39 #[fv, given] w fun e w' => e = .returned (.tuple #[zeroNum, .int .i64 7]) ∧ Kept w w' := by
  have hK := toldW_kept w
  go_enter_defers Tryd.func39, Tryd.ntmps39
  go_wp2_with (first | (go_at_call 45; refine (KV.out _ hK).mono ?_; rintro e w1 ⟨rfl, hk1⟩; obtain ⟨c0, c1, c2, c3, f0, f1⟩ := told_cells hk1))
  refine ⟨_, (by simp [results, Tryd.results39, go_sem, c0, c1, c2, c3]), rfl, ?_⟩
  exact (hK.trans hk1).setCell (by simp) _ |>.setCell (by simp) _ |>.setCell (by simp) _ |>.setCell (by simp) _

set_option maxHeartbeats 1000000 in
set_option maxRecDepth 100000 in
theorem told_ok (K : Nat) (caps : Array Value) (hcall : ∀ w, (callFunc K caps).run Tryd.prog w = .ok (.enter K caps) w) (given : Value) (r : Nm) (w : World)
    (KV : Hid (∀ w', Kept w w' → Calls Tryd.prog 45 #[given] w' fun e w'' => e = .returned (.bool true) ∧ Kept w' w''))
    (KR : Hid (∀ w', Kept w w' → Calls Tryd.prog K caps w' fun e w'' => (∃ v, e = .returned v ∧ New w' w'' v r) ∧ Kept w' w'')) :
    Calls Tryd.prog 39 #[.func (.func K) #[] caps, given] w fun e w' => ∃ v, e = .returned (.tuple #[v, .int .i64 0]) ∧ New w w' v r ∧ Kept w w' := by
  have hK := toldW_kept w
  have hmf : ∀ (fn : Fn) (first cap : Array Value) (w : World), (Instr.makeFunc fn first cap).run Tryd.prog w = .ok (.func fn first cap) w := fun _ _ _ _ => rfl
  go_enter_defers Tryd.func39, Tryd.ntmps39
  go_wp2_with (first | (go_at_call 45; refine (KV.out _ hK).mono ?_; rintro e w1 ⟨rfl, hk1⟩; obtain ⟨c0, c1, c2, c3, f0, f1⟩ := told_cells hk1))
  refine (KR.out _ (hK.trans hk1)).mono ?_
  rintro e w2 ⟨⟨v, rfl, hN⟩, hk2⟩
  obtain ⟨d0, d1, d2, d3, g0, g1⟩ := told_cells (hk1.trans hk2)
  clear c0 c1 c2 c3 f0 f1
  have HN : Hid (New w1 w2 v r) := hN
  obtain ⟨n, ao, l, c, x, rfl⟩ : ∃ n ao l c x, v = .agg #[.bool n, .slice ao l c, .int .i64 x] := by
    rcases hN with ⟨-, rfl⟩ | ⟨g, cap, rfl, -⟩
    · exact ⟨_, _, _, _, _, rfl⟩
    · exact ⟨_, _, _, _, _, rfl⟩
  clear hN
  go_wp2
  refine leaves_cons (f := 71) (args := #[.pointer (some ⟨w.heap.size, 0, none⟩), .pointer (some ⟨w.heap.size + 1, 0, none⟩)]) (by simp) (by simp [go_sem]) ?_
  refine (catch_idle ⟨w.heap.size, 0, none⟩ ⟨w.heap.size + 1, 0, none⟩ _).mono ?_
  rintro e u' w'' ⟨rfl, rfl, rfl⟩
  simp only [Leaves, settle]
  refine ⟨_, (by simp [results, Tryd.results39, go_sem, d0, d1, d2, d3]; rfl), _, rfl, ?_, ?_⟩
  · have hsz : w.heap.size + 2 ≤ w1.heap.size := by have := hk1.below.size; simpa using this
    have hn := HN.out
    rcases hn with h | ⟨g, cap, e, hg, ho, hne⟩
    · exact .inl h
    · exact .inr ⟨g, cap, e, by omega, (((ho.setOther (by simp; omega) _).setOther (by simp; omega) _).setOther (by simp; omega) _).setOther (by simp; omega) _, hne⟩
  · exact ((hK.trans hk1).trans hk2).setCell (by simp) _ |>.setCell (by simp) _ |>.setCell (by simp) _ |>.setCell (by simp) _

set_option maxHeartbeats 1000000 in
set_option maxRecDepth 100000 in
theorem told_no (K : Nat) (caps : Array Value) (hcall : ∀ w, (callFunc K caps).run Tryd.prog w = .ok (.enter K caps) w) (given : Value) (w : World)
    (KV : Hid (∀ w', Kept w w' → Calls Tryd.prog 45 #[given] w' fun e w'' => e = .returned (.bool true) ∧ Kept w' w''))
    (KR : Hid (∀ w', Kept w w' → Calls Tryd.prog K caps w' fun e w'' => e = .panicked gaveUp ∧ Kept w' w'')) :
    Calls Tryd.prog 39 #[.func (.func K) #[] caps, given] w fun e w' => e = .returned (.tuple #[zeroNum, .int .i64 2]) ∧ Kept w w' := by
  have hK := toldW_kept w
  have hmf : ∀ (fn : Fn) (first cap : Array Value) (w : World), (Instr.makeFunc fn first cap).run Tryd.prog w = .ok (.func fn first cap) w := fun _ _ _ _ => rfl
  go_enter_defers Tryd.func39, Tryd.ntmps39
  go_wp2_with (first | (go_at_call 45; refine (KV.out _ hK).mono ?_; rintro e w1 ⟨rfl, hk1⟩; obtain ⟨c0, c1, c2, c3, f0, f1⟩ := told_cells hk1))
  refine (KR.out _ (hK.trans hk1)).mono ?_
  rintro e w2 ⟨rfl, hk2⟩
  obtain ⟨d0, d1, d2, d3, g0, g1⟩ := told_cells (hk1.trans hk2)
  clear c0 c1 c2 c3 f0 f1
  go_wp2
  refine leaves_cons (f := 71) (args := #[.pointer (some ⟨w.heap.size, 0, none⟩), .pointer (some ⟨w.heap.size + 1, 0, none⟩)]) (by simp) (by simp [go_sem]) ?_
  refine (catch_up _ _ _ _ _ _ _ _ _ _ [] _ d0 d1 d2 d3 g0 g1 (by omega)).mono ?_
  rintro e u' w'' ⟨rfl, rfl, rfl⟩
  simp only [settle, List.dropWhile_nil, Leaves]
  refine ⟨_, (by simp [results, Tryd.results39, go_sem, d0, d1, d2, d3]), rfl, ?_⟩
  exact ((hK.trans hk1).trans hk2).setCell (by simp) _ |>.setCell (by simp) _ |>.setCell (by simp) _ |>.setCell (by simp) _
end Go.Proofs.YtkmengfmiamdaaaDoor
