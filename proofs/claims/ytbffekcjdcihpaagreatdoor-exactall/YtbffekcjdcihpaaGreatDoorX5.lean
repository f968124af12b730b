/- exact's Add, Sub, Mul and Cmp where a number is none. What is kept of answers, one after another; the laws' own 'is'. exact's Add, Sub, Mul and Cmp of whatever is handed in, beside the document's own answers. The walk of the laws' own 'twos'. The walk of the statement on sums, differences, products and the order of any two. -/
import Derived.Test.YtbffekcjdcihpaaGreatDoorPak
import Derived.Deep.Cut
import Derived.Test.YtbffekcjdcihpaaGreatDoorPaf
import Derived.Test.YtbffekcjdcihpaaGreatDoorQ9
namespace Go.Proofs.YtbffekcjdcihpaaGreatDoor
open Go.ChangeShapes Go.WideShapes Go.ChangeAt Go.RowKit
set_option maxHeartbeats 16000000
set_option maxRecDepth 100000
set_option linter.unusedVariables false
set_option linter.unusedSimpArgs false
theorem add_bad (w : World) (n1 : Bool) (L1 : List Int) (x1 : Int) (hR1 : Rg L1) (hl1 : L1.length < 60000000) (a1 : Option Addr) (c1 : Nat) (n2 : Bool) (L2 : List Int) (x2 : Int) (hR2 : Rg L2) (hl2 : L2.length < 60000000) (a2 : Option Addr) (c2 : Nat)  (h1 : Sl w (.slice a1 L1.length c1) L1) (h2 : Sl w (.slice a2 L2.length c2) L2) (hbad : (vld ⟨n1, L1, x1⟩ && vld ⟨n2, L2, x2⟩) = false) : Calls Tryz.prog 32 #[.agg #[.bool n1, .slice a1 L1.length c1, .int .i64 x1], .agg #[.bool n2, .slice a2 L2.length c2, .int .i64 x2]] w fun e w' => e = .returned (.tuple #[zeroNum, .int .i64 7]) ∧ Kept w w' := by
 have hW := addW_kept w #[.bool n1, .slice a1 L1.length c1, .int .i64 x1] #[.bool n2, .slice a2 L2.length c2, .int .i64 x2] (pairC n1 (.slice a1 L1.length c1) x1 n2 (.slice a2 L2.length c2) x2)
 have KV : Hid (∀ w', Kept (addW w #[.bool n1, .slice a1 L1.length c1, .int .i64 x1] #[.bool n2, .slice a2 L2.length c2, .int .i64 x2] (pairC n1 (.slice a1 L1.length c1) x1 n2 (.slice a2 L2.length c2) x2)) w' → Calls Tryz.prog 74 #[.slice (some ⟨w.heap.size + 3, 0, none⟩) 2 2] w' fun e w'' => e = .returned (.bool false) ∧ Kept w' w'') := fun u k => by
  have hb : w.heap.size + 3 < (addW w #[.bool n1, .slice a1 L1.length c1, .int .i64 x1] #[.bool n2, .slice a2 L2.length c2, .int .i64 x2] (pairC n1 (.slice a1 L1.length c1) x1 n2 (.slice a2 L2.length c2) x2)).heap.size := by simp
  have := allValid_2 u (w.heap.size + 3) 2 n1 n2 a1 a2 L1.length c1 L2.length c2 x1 x2 (vld ⟨n1, L1, x1⟩) (vld ⟨n2, L2, x2⟩) (Nat.lt_of_lt_of_le hb k.below.size) ((k.below.cell (p := ⟨w.heap.size + 3, 0, none⟩) hb).trans (by simp [go_sem])) ((k.below.cell (p := ⟨w.heap.size + 3, 1, none⟩) hb).trans (by simp [go_sem])) ((k.below.cell (p := ⟨w.heap.size + 3, 2, none⟩) hb).trans (by simp [go_sem])) ((k.below.cell (p := ⟨w.heap.size + 3, 3, none⟩) hb).trans (by simp [go_sem])) ((k.below.cell (p := ⟨w.heap.size + 3, 4, none⟩) hb).trans (by simp [go_sem])) ((k.below.cell (p := ⟨w.heap.size + 3, 5, none⟩) hb).trans (by simp [go_sem])) (fun v kv => ?_) (fun v kv => ?_)
  ·rw [hbad] at this
   exact this
  ·exact xvalid_any ⟨n1, L1, x1⟩ hR1 (by dsimp only; omega) (.agg #[.bool n1, .slice a1 L1.length c1, .int .i64 x1]) v ⟨_, rfl, ((h1.kept hW).kept k).kept kv⟩
  ·exact xvalid_any ⟨n2, L2, x2⟩ hR2 (by dsimp only; omega) (.agg #[.bool n2, .slice a2 L2.length c2, .int .i64 x2]) v ⟨_, rfl, ((h2.kept hW).kept k).kept kv⟩
 have KT : Hid (Calls Tryz.prog 51 #[.func (.func 69) #[] #[.pointer (some ⟨w.heap.size, 0, none⟩), .pointer (some ⟨w.heap.size + 1, 0, none⟩)], .slice (some ⟨w.heap.size + 3, 0, none⟩) 2 2] (addW w #[.bool n1, .slice a1 L1.length c1, .int .i64 x1] #[.bool n2, .slice a2 L2.length c2, .int .i64 x2] (pairC n1 (.slice a1 L1.length c1) x1 n2 (.slice a2 L2.length c2) x2)) fun e w' => e = .returned (.tuple #[zeroNum, .int .i64 7]) ∧ Kept (addW w #[.bool n1, .slice a1 L1.length c1, .int .i64 x1] #[.bool n2, .slice a2 L2.length c2, .int .i64 x2] (pairC n1 (.slice a1 L1.length c1) x1 n2 (.slice a2 L2.length c2) x2)) w') := told_bad _ _ _ KV
 have hmf : ∀ (fn : Fn) (first cap : Array Value) (w : World), (Instr.makeFunc fn first cap).run Tryz.prog w = .ok (.func fn first cap) w := fun _ _ _ _ => rfl
 clear h1 h2 KV hbad hR1 hR2 hl1 hl2
 generalize L1.length = l1 at *
 generalize L2.length = l2 at *
 go_enter Tryz.func32, Tryz.ntmps32
 go_wp2_with (first | (go_at_call 51; refine KT.out.mono ?_; rintro e w1 ⟨rfl, hk1⟩; obtain ⟨f0, f1, f2, f3⟩ := res_cells (w.heap.size + 2) (by simp <;> omega) hk1 (by simp [go_sem]) (by simp [go_sem]) (by simp [go_sem]) (fun o => by simp [go_sem])))
 refine bodyPost_ret (v := .tuple #[zeroNum, .int .i64 7]) (by simp [results, Tryz.results32, go_sem, f0, f1, f2]) rfl ⟨rfl, res_kept (w.heap.size + 2) (by omega) hW hk1 _ _ _⟩
theorem sub_bad (w : World) (n1 : Bool) (L1 : List Int) (x1 : Int) (hR1 : Rg L1) (hl1 : L1.length < 60000000) (a1 : Option Addr) (c1 : Nat) (n2 : Bool) (L2 : List Int) (x2 : Int) (hR2 : Rg L2) (hl2 : L2.length < 60000000) (a2 : Option Addr) (c2 : Nat)  (h1 : Sl w (.slice a1 L1.length c1) L1) (h2 : Sl w (.slice a2 L2.length c2) L2) (hbad : (vld ⟨n1, L1, x1⟩ && vld ⟨n2, L2, x2⟩) = false) : Calls Tryz.prog 33 #[.agg #[.bool n1, .slice a1 L1.length c1, .int .i64 x1], .agg #[.bool n2, .slice a2 L2.length c2, .int .i64 x2]] w fun e w' => e = .returned (.tuple #[zeroNum, .int .i64 7]) ∧ Kept w w' := by
 have hW := addW_kept w #[.bool n1, .slice a1 L1.length c1, .int .i64 x1] #[.bool n2, .slice a2 L2.length c2, .int .i64 x2] (pairC n1 (.slice a1 L1.length c1) x1 n2 (.slice a2 L2.length c2) x2)
 have KV : Hid (∀ w', Kept (addW w #[.bool n1, .slice a1 L1.length c1, .int .i64 x1] #[.bool n2, .slice a2 L2.length c2, .int .i64 x2] (pairC n1 (.slice a1 L1.length c1) x1 n2 (.slice a2 L2.length c2) x2)) w' → Calls Tryz.prog 74 #[.slice (some ⟨w.heap.size + 3, 0, none⟩) 2 2] w' fun e w'' => e = .returned (.bool false) ∧ Kept w' w'') := fun u k => by
  have hb : w.heap.size + 3 < (addW w #[.bool n1, .slice a1 L1.length c1, .int .i64 x1] #[.bool n2, .slice a2 L2.length c2, .int .i64 x2] (pairC n1 (.slice a1 L1.length c1) x1 n2 (.slice a2 L2.length c2) x2)).heap.size := by simp
  have := allValid_2 u (w.heap.size + 3) 2 n1 n2 a1 a2 L1.length c1 L2.length c2 x1 x2 (vld ⟨n1, L1, x1⟩) (vld ⟨n2, L2, x2⟩) (Nat.lt_of_lt_of_le hb k.below.size) ((k.below.cell (p := ⟨w.heap.size + 3, 0, none⟩) hb).trans (by simp [go_sem])) ((k.below.cell (p := ⟨w.heap.size + 3, 1, none⟩) hb).trans (by simp [go_sem])) ((k.below.cell (p := ⟨w.heap.size + 3, 2, none⟩) hb).trans (by simp [go_sem])) ((k.below.cell (p := ⟨w.heap.size + 3, 3, none⟩) hb).trans (by simp [go_sem])) ((k.below.cell (p := ⟨w.heap.size + 3, 4, none⟩) hb).trans (by simp [go_sem])) ((k.below.cell (p := ⟨w.heap.size + 3, 5, none⟩) hb).trans (by simp [go_sem])) (fun v kv => ?_) (fun v kv => ?_)
  ·rw [hbad] at this
   exact this
  ·exact xvalid_any ⟨n1, L1, x1⟩ hR1 (by dsimp only; omega) (.agg #[.bool n1, .slice a1 L1.length c1, .int .i64 x1]) v ⟨_, rfl, ((h1.kept hW).kept k).kept kv⟩
  ·exact xvalid_any ⟨n2, L2, x2⟩ hR2 (by dsimp only; omega) (.agg #[.bool n2, .slice a2 L2.length c2, .int .i64 x2]) v ⟨_, rfl, ((h2.kept hW).kept k).kept kv⟩
 have KT : Hid (Calls Tryz.prog 51 #[.func (.func 71) #[] #[.pointer (some ⟨w.heap.size, 0, none⟩), .pointer (some ⟨w.heap.size + 1, 0, none⟩)], .slice (some ⟨w.heap.size + 3, 0, none⟩) 2 2] (addW w #[.bool n1, .slice a1 L1.length c1, .int .i64 x1] #[.bool n2, .slice a2 L2.length c2, .int .i64 x2] (pairC n1 (.slice a1 L1.length c1) x1 n2 (.slice a2 L2.length c2) x2)) fun e w' => e = .returned (.tuple #[zeroNum, .int .i64 7]) ∧ Kept (addW w #[.bool n1, .slice a1 L1.length c1, .int .i64 x1] #[.bool n2, .slice a2 L2.length c2, .int .i64 x2] (pairC n1 (.slice a1 L1.length c1) x1 n2 (.slice a2 L2.length c2) x2)) w') := told_bad _ _ _ KV
 have hmf : ∀ (fn : Fn) (first cap : Array Value) (w : World), (Instr.makeFunc fn first cap).run Tryz.prog w = .ok (.func fn first cap) w := fun _ _ _ _ => rfl
 clear h1 h2 KV hbad hR1 hR2 hl1 hl2
 generalize L1.length = l1 at *
 generalize L2.length = l2 at *
 go_enter Tryz.func33, Tryz.ntmps33
 go_wp2_with (first | (go_at_call 51; refine KT.out.mono ?_; rintro e w1 ⟨rfl, hk1⟩; obtain ⟨f0, f1, f2, f3⟩ := res_cells (w.heap.size + 2) (by simp <;> omega) hk1 (by simp [go_sem]) (by simp [go_sem]) (by simp [go_sem]) (fun o => by simp [go_sem])))
 refine bodyPost_ret (v := .tuple #[zeroNum, .int .i64 7]) (by simp [results, Tryz.results33, go_sem, f0, f1, f2]) rfl ⟨rfl, res_kept (w.heap.size + 2) (by omega) hW hk1 _ _ _⟩
theorem mul_bad (w : World) (n1 : Bool) (L1 : List Int) (x1 : Int) (hR1 : Rg L1) (hl1 : L1.length < 60000000) (a1 : Option Addr) (c1 : Nat) (n2 : Bool) (L2 : List Int) (x2 : Int) (hR2 : Rg L2) (hl2 : L2.length < 60000000) (a2 : Option Addr) (c2 : Nat)  (h1 : Sl w (.slice a1 L1.length c1) L1) (h2 : Sl w (.slice a2 L2.length c2) L2) (hbad : (vld ⟨n1, L1, x1⟩ && vld ⟨n2, L2, x2⟩) = false) : Calls Tryz.prog 34 #[.agg #[.bool n1, .slice a1 L1.length c1, .int .i64 x1], .agg #[.bool n2, .slice a2 L2.length c2, .int .i64 x2]] w fun e w' => e = .returned (.tuple #[zeroNum, .int .i64 7]) ∧ Kept w w' := by
 have hW := addW_kept w #[.bool n1, .slice a1 L1.length c1, .int .i64 x1] #[.bool n2, .slice a2 L2.length c2, .int .i64 x2] (pairC n1 (.slice a1 L1.length c1) x1 n2 (.slice a2 L2.length c2) x2)
 have KV : Hid (∀ w', Kept (addW w #[.bool n1, .slice a1 L1.length c1, .int .i64 x1] #[.bool n2, .slice a2 L2.length c2, .int .i64 x2] (pairC n1 (.slice a1 L1.length c1) x1 n2 (.slice a2 L2.length c2) x2)) w' → Calls Tryz.prog 74 #[.slice (some ⟨w.heap.size + 3, 0, none⟩) 2 2] w' fun e w'' => e = .returned (.bool false) ∧ Kept w' w'') := fun u k => by
  have hb : w.heap.size + 3 < (addW w #[.bool n1, .slice a1 L1.length c1, .int .i64 x1] #[.bool n2, .slice a2 L2.length c2, .int .i64 x2] (pairC n1 (.slice a1 L1.length c1) x1 n2 (.slice a2 L2.length c2) x2)).heap.size := by simp
  have := allValid_2 u (w.heap.size + 3) 2 n1 n2 a1 a2 L1.length c1 L2.length c2 x1 x2 (vld ⟨n1, L1, x1⟩) (vld ⟨n2, L2, x2⟩) (Nat.lt_of_lt_of_le hb k.below.size) ((k.below.cell (p := ⟨w.heap.size + 3, 0, none⟩) hb).trans (by simp [go_sem])) ((k.below.cell (p := ⟨w.heap.size + 3, 1, none⟩) hb).trans (by simp [go_sem])) ((k.below.cell (p := ⟨w.heap.size + 3, 2, none⟩) hb).trans (by simp [go_sem])) ((k.below.cell (p := ⟨w.heap.size + 3, 3, none⟩) hb).trans (by simp [go_sem])) ((k.below.cell (p := ⟨w.heap.size + 3, 4, none⟩) hb).trans (by simp [go_sem])) ((k.below.cell (p := ⟨w.heap.size + 3, 5, none⟩) hb).trans (by simp [go_sem])) (fun v kv => ?_) (fun v kv => ?_)
  ·rw [hbad] at this
   exact this
  ·exact xvalid_any ⟨n1, L1, x1⟩ hR1 (by dsimp only; omega) (.agg #[.bool n1, .slice a1 L1.length c1, .int .i64 x1]) v ⟨_, rfl, ((h1.kept hW).kept k).kept kv⟩
  ·exact xvalid_any ⟨n2, L2, x2⟩ hR2 (by dsimp only; omega) (.agg #[.bool n2, .slice a2 L2.length c2, .int .i64 x2]) v ⟨_, rfl, ((h2.kept hW).kept k).kept kv⟩
 have KT : Hid (Calls Tryz.prog 51 #[.func (.func 72) #[] #[.pointer (some ⟨w.heap.size, 0, none⟩), .pointer (some ⟨w.heap.size + 1, 0, none⟩)], .slice (some ⟨w.heap.size + 3, 0, none⟩) 2 2] (addW w #[.bool n1, .slice a1 L1.length c1, .int .i64 x1] #[.bool n2, .slice a2 L2.length c2, .int .i64 x2] (pairC n1 (.slice a1 L1.length c1) x1 n2 (.slice a2 L2.length c2) x2)) fun e w' => e = .returned (.tuple #[zeroNum, .int .i64 7]) ∧ Kept (addW w #[.bool n1, .slice a1 L1.length c1, .int .i64 x1] #[.bool n2, .slice a2 L2.length c2, .int .i64 x2] (pairC n1 (.slice a1 L1.length c1) x1 n2 (.slice a2 L2.length c2) x2)) w') := told_bad _ _ _ KV
 have hmf : ∀ (fn : Fn) (first cap : Array Value) (w : World), (Instr.makeFunc fn first cap).run Tryz.prog w = .ok (.func fn first cap) w := fun _ _ _ _ => rfl
 clear h1 h2 KV hbad hR1 hR2 hl1 hl2
 generalize L1.length = l1 at *
 generalize L2.length = l2 at *
 go_enter Tryz.func34, Tryz.ntmps34
 go_wp2_with (first | (go_at_call 51; refine KT.out.mono ?_; rintro e w1 ⟨rfl, hk1⟩; obtain ⟨f0, f1, f2, f3⟩ := res_cells (w.heap.size + 2) (by simp <;> omega) hk1 (by simp [go_sem]) (by simp [go_sem]) (by simp [go_sem]) (fun o => by simp [go_sem])))
 refine bodyPost_ret (v := .tuple #[zeroNum, .int .i64 7]) (by simp [results, Tryz.results34, go_sem, f0, f1, f2]) rfl ⟨rfl, res_kept (w.heap.size + 2) (by omega) hW hk1 _ _ _⟩
theorem cmp_bad (w : World) (n1 : Bool) (L1 : List Int) (x1 : Int) (hR1 : Rg L1) (hl1 : L1.length < 60000000) (a1 : Option Addr) (c1 : Nat) (n2 : Bool) (L2 : List Int) (x2 : Int) (hR2 : Rg L2) (hl2 : L2.length < 60000000) (a2 : Option Addr) (c2 : Nat)  (h1 : Sl w (.slice a1 L1.length c1) L1) (h2 : Sl w (.slice a2 L2.length c2) L2) (hbad : (vld ⟨n1, L1, x1⟩ && vld ⟨n2, L2, x2⟩) = false) : Calls Tryz.prog 35 #[.agg #[.bool n1, .slice a1 L1.length c1, .int .i64 x1], .agg #[.bool n2, .slice a2 L2.length c2, .int .i64 x2]] w fun e w' => e = .returned (.tuple #[.int .i64 0, .int .i64 7]) ∧ Kept w w' := by
 have hK : Kept w (((w.alloc (.cells #[.bool n1, .slice a1 L1.length c1, .int .i64 x1] 29)).alloc (.cells #[.bool n2, .slice a2 L2.length c2, .int .i64 x2] 29)).alloc (.cells (pairC n1 (.slice a1 L1.length c1) x1 n2 (.slice a2 L2.length c2) x2) 29)) := (((Kept.refl w).alloc _ _).alloc _ _).alloc _ _
 have KV : Hid (Calls Tryz.prog 74 #[.slice (some ⟨w.heap.size + 2, 0, none⟩) 2 2] (((w.alloc (.cells #[.bool n1, .slice a1 L1.length c1, .int .i64 x1] 29)).alloc (.cells #[.bool n2, .slice a2 L2.length c2, .int .i64 x2] 29)).alloc (.cells (pairC n1 (.slice a1 L1.length c1) x1 n2 (.slice a2 L2.length c2) x2) 29)) fun e w' => e = .returned (.bool false) ∧ Kept (((w.alloc (.cells #[.bool n1, .slice a1 L1.length c1, .int .i64 x1] 29)).alloc (.cells #[.bool n2, .slice a2 L2.length c2, .int .i64 x2] 29)).alloc (.cells (pairC n1 (.slice a1 L1.length c1) x1 n2 (.slice a2 L2.length c2) x2) 29)) w') := by
  have := allValid_2 (((w.alloc (.cells #[.bool n1, .slice a1 L1.length c1, .int .i64 x1] 29)).alloc (.cells #[.bool n2, .slice a2 L2.length c2, .int .i64 x2] 29)).alloc (.cells (pairC n1 (.slice a1 L1.length c1) x1 n2 (.slice a2 L2.length c2) x2) 29)) (w.heap.size + 2) 2 n1 n2 a1 a2 L1.length c1 L2.length c2 x1 x2 (vld ⟨n1, L1, x1⟩) (vld ⟨n2, L2, x2⟩) (by simp) (by simp [go_sem]) (by simp [go_sem]) (by simp [go_sem]) (by simp [go_sem]) (by simp [go_sem]) (by simp [go_sem]) (fun v kv => ?_) (fun v kv => ?_)
  ·rw [hbad] at this
   exact this
  ·exact xvalid_any ⟨n1, L1, x1⟩ hR1 (by dsimp only; omega) (.agg #[.bool n1, .slice a1 L1.length c1, .int .i64 x1]) v ⟨_, rfl, (h1.kept hK).kept kv⟩
  ·exact xvalid_any ⟨n2, L2, x2⟩ hR2 (by dsimp only; omega) (.agg #[.bool n2, .slice a2 L2.length c2, .int .i64 x2]) v ⟨_, rfl, (h2.kept hK).kept kv⟩
 clear h1 h2 hbad hR1 hR2 hl1 hl2
 generalize L1.length = l1 at *
 generalize L2.length = l2 at *
 go_enter Tryz.func35, Tryz.ntmps35
 go_wp2_with (first | (go_at_call 74; refine KV.out.mono ?_; rintro e w1 ⟨rfl, hk1⟩))
 go_ret2
 exact ⟨rfl, hK.trans hk1⟩
theorem far_any (w : World) (n1 n2 : Bool) (a1 a2 : Option Addr) (l1 c1 l2 c2 : Nat) (x1 x2 : Int) (g1 g2 : Bool)
  (K1 : Hid (l1 ≤ 2100 → ∀ u, Kept w u → Calls Tryz.prog 11 #[.agg #[.bool n1, .slice a1 l1 c1, .int .i64 x1]] u fun e w' => e = .returned (.bool g1) ∧ Kept u w'))
  (K2 : Hid (l2 ≤ 2100 → ∀ u, Kept w u → Calls Tryz.prog 11 #[.agg #[.bool n2, .slice a2 l2 c2, .int .i64 x2]] u fun e w' => e = .returned (.bool g2) ∧ Kept u w')) :
  ∃ fb : Bool, (fb = false → l1 ≤ 2100 ∧ l2 ≤ 2100) ∧ Calls Tryz.prog 4 #[.agg #[.bool n1, .slice a1 l1 c1, .int .i64 x1], .agg #[.bool n2, .slice a2 l2 c2, .int .i64 x2]] w fun e w' => e = .returned (.bool fb) ∧ Kept w w' := by
 obtain ⟨W, hW⟩ : ∃ W, W = ((w.alloc (.cells #[.bool n1, .slice a1 l1 c1, .int .i64 x1] 29)).alloc (.cells #[.bool n2, .slice a2 l2 c2, .int .i64 x2] 29)) := ⟨_, rfl⟩
 have hK : Kept w W := by rw [hW]; exact ((Kept.refl w).alloc _ _).alloc _ _
 have hWs : W.heap.size = w.heap.size + 2 := by rw [hW]; simp
 have HS : Hid (∀ u, Kept W u → ((u.cell? ⟨w.heap.size, 0, none⟩ = some (.bool n1) ∧ u.cell? ⟨w.heap.size, 1, none⟩ = some (.slice a1 l1 c1)) ∧ u.cell? ⟨w.heap.size, 2, none⟩ = some (.int .i64 x1)) ∧ (u.cell? ⟨w.heap.size + 1, 0, none⟩ = some (.bool n2) ∧ u.cell? ⟨w.heap.size + 1, 1, none⟩ = some (.slice a2 l2 c2)) ∧ u.cell? ⟨w.heap.size + 1, 2, none⟩ = some (.int .i64 x2)) := fun u k => ⟨⟨⟨((k.below.cell (p := ⟨w.heap.size, 0, none⟩) (by show w.heap.size < W.heap.size; omega)).trans (by rw [hW]; simp [go_sem])), ((k.below.cell (p := ⟨w.heap.size, 1, none⟩) (by show w.heap.size < W.heap.size; omega)).trans (by rw [hW]; simp [go_sem]))⟩, ((k.below.cell (p := ⟨w.heap.size, 2, none⟩) (by show w.heap.size < W.heap.size; omega)).trans (by rw [hW]; simp [go_sem]))⟩, ⟨((k.below.cell (p := ⟨w.heap.size + 1, 0, none⟩) (by show w.heap.size + 1 < W.heap.size; omega)).trans (by rw [hW]; simp [go_sem])), ((k.below.cell (p := ⟨w.heap.size + 1, 1, none⟩) (by show w.heap.size + 1 < W.heap.size; omega)).trans (by rw [hW]; simp [go_sem]))⟩, ((k.below.cell (p := ⟨w.heap.size + 1, 2, none⟩) (by show w.heap.size + 1 < W.heap.size; omega)).trans (by rw [hW]; simp [go_sem]))⟩
 by_cases h1 : 2100 < l1
 ·refine ⟨true, fun h => (by cases h), ?_⟩
  have h1' : (2100 : Int) < (l1 : Int) := by omega
  clear K1 K2
  go_enter Tryz.func4, Tryz.ntmps4
  go_upto_region 1 with fail
  rw [← hW]
  clear hW
  have e0 := HS.out _ (Kept.refl W)
  go_wp2
  go_ret
  exact ⟨rfl, hK⟩
 by_cases h2 : 2100 < l2
 ·refine ⟨true, fun h => (by cases h), ?_⟩
  have h1' : ¬ (2100 : Int) < (l1 : Int) := by omega
  have h2' : (2100 : Int) < (l2 : Int) := by omega
  clear K1 K2
  go_enter Tryz.func4, Tryz.ntmps4
  go_upto_region 1 with fail
  rw [← hW]
  clear hW
  have e0 := HS.out _ (Kept.refl W)
  go_wp2
  go_ret
  exact ⟨rfl, hK⟩
 have h1' : ¬ (2100 : Int) < (l1 : Int) := by omega
 have h2' : ¬ (2100 : Int) < (l2 : Int) := by omega
 have hm0 : 0 ≤ (l1 : Int) * (l2 : Int) := Int.mul_nonneg (by omega) (by omega)
 have hm1 : (l1 : Int) * (l2 : Int) ≤ 2100 * 2100 := Int.mul_le_mul (by omega) (by omega) (by omega) (by omega)
 have hm : IntKind.i64.wrap ((l1 : Int) * (l2 : Int)) = (l1 : Int) * (l2 : Int) := by rw [wrap_i64]; omega
 obtain ⟨m, hmm⟩ : ∃ m, (l1 : Int) * (l2 : Int) = m := ⟨_, rfl⟩
 rw [hmm] at hm
 by_cases h3 : 100000 < m
 ·refine ⟨true, fun h => (by cases h), ?_⟩
  clear K1 K2
  go_enter Tryz.func4, Tryz.ntmps4
  go_upto_region 1 with fail
  rw [← hW]
  clear hW
  have e0 := HS.out _ (Kept.refl W)
  go_wp2
  go_ret
  exact ⟨rfl, hK⟩
 have Q1 : Hid (∀ u, Kept w u → Calls Tryz.prog 11 #[.agg #[.bool n1, .slice a1 l1 c1, .int .i64 x1]] u fun e w' => e = .returned (.bool g1) ∧ Kept u w') := K1.out (by omega)
 have Q2 : Hid (∀ u, Kept w u → Calls Tryz.prog 11 #[.agg #[.bool n2, .slice a2 l2 c2, .int .i64 x2]] u fun e w' => e = .returned (.bool g2) ∧ Kept u w') := K2.out (by omega)
 clear K1 K2
 refine ⟨(g1 && (decide (200000 < x1) || decide (x1 < -200000))) || (g2 && (decide (200000 < x2) || decide (x2 < -200000))), fun _ => ⟨by omega, by omega⟩, ?_⟩
 go_enter Tryz.func4, Tryz.ntmps4
 go_upto_region 1 with fail
 rw [← hW]
 clear hW
 have e0 := HS.out _ (Kept.refl W)
 go_wp2_with fail
 refine (Q1.out _ hK).mono ?_
 rintro e u1 ⟨rfl, q1⟩
 clear e0
 have e0 := HS.out _ q1
 have HX : Hid (∀ u, Kept W u → u.cell? ⟨w.heap.size + 1, 2, none⟩ = some (.int .i64 x2)) := fun u k => (HS.out u k).2.2
 rcases g1 with _ | _
 ·go_wp2_with fail
  refine (Q2.out _ (hK.trans q1)).mono ?_
  rintro e u2 ⟨rfl, q2⟩
  clear e0
  have e0 := HX.out _ (q1.trans q2)
  rcases g2 with _ | _
  ·go_wp2
   go_ret
   exact ⟨by simp, hK.trans (q1.trans q2)⟩
  ·by_cases y1 : 200000 < x2
   ·go_wp2
    go_ret
    exact ⟨by simp [y1], hK.trans (q1.trans q2)⟩
   ·by_cases y2 : x2 < -200000
    ·go_wp2
     go_ret
     exact ⟨by simp [y1, y2], hK.trans (q1.trans q2)⟩
    ·go_wp2
     go_ret
     exact ⟨by simp [y1, y2], hK.trans (q1.trans q2)⟩
 ·by_cases z1 : 200000 < x1
  ·go_wp2
   go_ret
   exact ⟨by simp [z1], hK.trans q1⟩
  ·by_cases z2 : x1 < -200000
   ·go_wp2
    go_ret
    exact ⟨by simp [z1, z2], hK.trans q1⟩
   ·go_wp2_with fail
    refine (Q2.out _ (hK.trans q1)).mono ?_
    rintro e u2 ⟨rfl, q2⟩
    clear e0
    have e0 := HX.out _ (q1.trans q2)
    rcases g2 with _ | _
    ·go_wp2
     go_ret
     exact ⟨by simp [z1, z2], hK.trans (q1.trans q2)⟩
    ·by_cases y1 : 200000 < x2
     ·go_wp2
      go_ret
      exact ⟨by simp [y1], hK.trans (q1.trans q2)⟩
     ·by_cases y2 : x2 < -200000
      ·go_wp2
       go_ret
       exact ⟨by simp [y1, y2], hK.trans (q1.trans q2)⟩
      ·go_wp2
       go_ret
       exact ⟨by simp [y1, y2, z1, z2], hK.trans (q1.trans q2)⟩
def Frn (w0 x : World) (kb : Nat) (vL vW : Value) (E : List Ent) (D : List Nat) (N : Nat) (u : World) : Prop := ∃ vL' vW' E', KeepAt w0 u kb vL' vW' E' ∧ E'.length ≤ N ∧ GrwS (kb :: (blk vL ++ blk vW)) x u ∧ (∀ b ∈ blks kb vL' vW' E', b ∈ blks kb vL vW E ∨ b ∈ D ∨ x.heap.size ≤ b) ∧ ∀ b ∈ kb :: (blk vL' ++ blk vW'), b ∈ kb :: (blk vL ++ blk vW) ∨ x.heap.size ≤ b
theorem Frn.start {w0 x : World} {kb : Nat} {vL vW : Value} {E : List Ent} (h : KeepAt w0 x kb vL vW E) : Frn w0 x kb vL vW E [] E.length x :=
 ⟨vL, vW, E, h, Nat.le_refl _, GrwS.refl _ _, fun b hb => .inl hb, fun b hb => .inl hb⟩
theorem Frn.on {w0 x u u' : World} {kb : Nat} {vL vW : Value} {E : List Ent} {D : List Nat} {N : Nat} (h : Frn w0 x kb vL vW E D N u) (k : Kept u u') : Frn w0 x kb vL vW E D N u' := by
 obtain ⟨vL', vW', E', h1, h0, h2, h3, h4⟩ := h
 exact ⟨vL', vW', E', h1.keptOn k, h0, h2.trans (k.toS _), h3, h4⟩
theorem Frn.kept {w0 x u : World} {kb : Nat} {vL vW : Value} {E : List Ent} {D : List Nat} {N : Nat} (h : Frn w0 x kb vL vW E D N u) : Kept w0 u := by
 obtain ⟨vL', vW', E', h1, -⟩ := h
 exact h1.kept
theorem Frn.grw {w0 x u : World} {kb : Nat} {vL vW : Value} {E : List Ent} {D : List Nat} {N : Nat} (h : Frn w0 x kb vL vW E D N u) : GrwS (kb :: (blk vL ++ blk vW)) x u := by
 obtain ⟨vL', vW', E', h1, h0, h2, -⟩ := h
 exact h2
theorem head_blks {kb : Nat} {vL vW : Value} {E : List Ent} {b : Nat} (h : b ∈ kb :: (blk vL ++ blk vW)) : b ∈ blks kb vL vW E := by
 unfold blks
 rcases List.mem_cons.1 h with rfl | h
 ·simp
 ·exact List.mem_cons.2 (.inr (List.mem_append.2 (.inl h)))
theorem RLp.grwS {P : Nat → Prop} {S : List Nat} {w w' : World} {v : Value} {M : List Int} (h : RLp P w v M) (k : GrwS S w w') (hP : ∀ b, P b → b ∉ S) : RLp P w' v M := by
 obtain ⟨ao, c, rfl, hc, ⟨ao', c', e, h1, h2, hr⟩, hp⟩ := h
 cases e
 refine ⟨ao, c, rfl, hc, ⟨ao, c, rfl, h1, h2, fun hne => ?_⟩, hp⟩
 obtain ⟨b, off, rfl, hb, hr⟩ := hr hne
 refine ⟨b, off, rfl, Nat.lt_of_lt_of_le hb k.size, fun i hi => ?_⟩
 exact (World.cell?_of_block (a := ⟨b, off + i, none⟩) (k.block b hb (hP b (hp b off hne rfl)))).trans (hr i hi)
theorem RLp.sl {P : Nat → Prop} {w : World} {v : Value} {M : List Int} (h : RLp P w v M) : Sl w v M := by
 obtain ⟨ao, c, rfl, -, hs, -⟩ := h
 exact hs
theorem add_frn (w0 x : World) (kb : Nat) (vL vW : Value) (E : List Ent) (D : List Nat) (N : Nat) (u0 u : World) (hF : Frn w0 x kb vL vW E D N u0) (k : Kept u0 u) (hN : N < 300) (l want : Value) (L : List Int) (hL : L.length < 10000000) (hl : Rw x l 3 (ints L)) (hd : ∀ b ∈ blk l, b ∉ blks kb vL vW E) (hD : ∀ b ∈ blk l, b ∉ D) (hn : ∀ b ∈ blk l, w0.heap.size ≤ b) (hw : RLp (fun b => b < w0.heap.size ∨ u0.heap.size ≤ b) u want L) :
  Calls Tryz.prog 17 #[.pointer (some ⟨kb, 0, none⟩), l, want] u fun e w' => e = .returned (.bool true) ∧ Frn w0 x kb vL vW E (D ++ blk l) (N + 1) w' := by
 obtain ⟨vL', vW', E', h1, h0, h2, h3, h4⟩ := hF
 have hlt := hl.lt
 have hx := h2.size
 have hu := k.below.size
 have hlu : Rw u l 3 (ints L) := (hl.grwS h2 (fun b hb h => hd b hb (head_blks h))).kept k
 refine (keepAdd w0 u kb vL' vW' E' (h1.keptOn k) (by omega) l want L hL hlu (fun b hb h => ?_) hn (fun t kt => ?_)).mono ?_
 ·have := hlt b hb
  rcases h3 b h with h | h | h
  ·exact hd b hb h
  ·exact hD b hb h
  ·omega
 ·refine (hw.grwS kt (fun b hb h => ?_)).sl
  have g1 := h1.new b (head_blks h)
  have g2 := h1.lt b (head_blks h)
  omega
 ·rintro e w' ⟨rfl, vL2, vW2, t2, g1, g2, g3, g4⟩
  refine ⟨rfl, vL2, vW2, _, g1, by rw [List.length_append]; simp; omega, (h2.trans (k.toS _)).then g2 (fun i hi => h4 i hi), fun b hb => ?_, fun b hb => ?_⟩
  ·rcases g3 b hb with h | h | h
   ·rcases h3 b h with h | h | h
    ·exact .inl h
    ·exact .inr (.inl (List.mem_append.2 (.inl h)))
    ·exact .inr (.inr h)
   ·exact .inr (.inl (List.mem_append.2 (.inr h)))
   ·exact .inr (.inr (by omega))
  ·rcases g4 b hb with h | h
   ·rcases h4 b h with h | h
    ·exact .inl h
    ·exact .inr h
   ·exact .inr (by omega)
theorem is_at (w0 x : World) (kb : Nat) (vL vW : Value) (E : List Ent) (D : List Nat) (N : Nat) (u0 u : World) (hF : Frn w0 x kb vL vW E D N u0) (k : Kept u0 u) (hN : N < 300) (r : Nm) (f : Int) (pa : Option Addr) (pc : Nat) (hl : Rw x (.slice pa r.mag.length pc) 3 (ints r.mag)) (hd : ∀ b ∈ blk (.slice pa r.mag.length pc), b ∉ blks kb vL vW E) (hD : ∀ b ∈ blk (.slice pa r.mag.length pc), b ∉ D) (hn : ∀ b ∈ blk (.slice pa r.mag.length pc), w0.heap.size ≤ b)
  (want : Nm) (vw : Value) (hw : RNp (fun b => b < w0.heap.size ∨ u0.heap.size ≤ b) u vw want) (hRg : Rg want.mag) (hlen : want.mag.length < 10000000) (hans : if vld want = true then r = want ∧ f = 0 else r = ⟨false, [], 0⟩ ∧ f = 2) :
  Calls Tryz.prog 22 #[.pointer (some ⟨kb, 0, none⟩), .agg #[.bool r.neg, .slice pa r.mag.length pc, .int .i64 r.exp], .int .i64 f, .bool false, vw] u fun e w' => e = .returned (.bool true) ∧ Frn w0 x kb vL vW E (D ++ blk (.slice pa r.mag.length pc)) (N + 1) w' := by
 obtain ⟨ao, c, rfl, hws⟩ := hw.shape
 have hx := hF.grw
 have hlu : ∀ t, Kept u t → Rw t (.slice pa r.mag.length pc) 3 (ints r.mag) := fun t kt => (hl.grwS hx (fun b hb h => hd b hb (head_blks h))).kept (k.trans kt)
 by_cases hv : vld want = true
 ·rw [if_pos hv] at hans
  obtain ⟨rfl, rfl⟩ := hans
  refine is_gen _ _ _ _ _ _ _ _ _ _ _ _ r.neg ao r.mag.length c r.exp u _ (fun t kt => ?_) (fun t kt => ?_) (fun t kt => ?_)
  ·have := answer_any r hRg (by omega) ao c t ((hws.kept kt).sl)
   rw [hv] at this
   exact this
  ·exact sameNum_true r (by omega) _ _ t ⟨_, rfl, (hlu t kt).sl⟩ ⟨_, rfl, (hws.kept kt).sl⟩
  ·exact add_frn w0 x kb vL vW E D N u0 t hF (k.trans kt) hN _ _ r.mag hlen hl hd hD hn (hws.kept kt)
 ·rw [if_neg hv] at hans
  obtain ⟨rfl, rfl⟩ := hans
  have hv' : vld want = false := by simpa using hv
  dsimp only at *
  refine is_gen _ _ _ _ _ _ _ _ _ _ _ _ false none 0 0 0 u _ (fun t kt => ?_) (fun t kt => ?_) (fun t kt => ?_)
  ·have := answer_any want hRg (by omega) ao c t ((hws.kept kt).sl)
   rw [hv'] at this
   exact this
  ·exact sameNum_true ⟨false, [], 0⟩ (by simp) _ _ t ⟨_, rfl, (hlu t kt).sl⟩ ⟨_, rfl, (RLp.nil (fun _ => True) t).sl⟩
  ·exact add_frn w0 x kb vL vW E D N u0 t hF (k.trans kt) hN _ _ [] (by simp) hl hd hD hn (RLp.nil _ t)
/-- Three cells that stay as long as their block is none of those that are turned. -/
def Tri (X : World) (p : Nat) (v0 v1 v2 : Value) : Prop := p < X.heap.size ∧ ∀ S u, p ∉ S → GrwS S X u → (u.cell? ⟨p, 0, none⟩ = some v0 ∧ u.cell? ⟨p, 1, none⟩ = some v1) ∧ u.cell? ⟨p, 2, none⟩ = some v2
theorem Tri.now {X : World} {p : Nat} {v0 v1 v2 : Value} (h : Tri X p v0 v1 v2) : (X.cell? ⟨p, 0, none⟩ = some v0 ∧ X.cell? ⟨p, 1, none⟩ = some v1) ∧ X.cell? ⟨p, 2, none⟩ = some v2 := h.2 [] X (by simp) (GrwS.refl _ _)
theorem Tri.grw {S : List Nat} {X X' : World} {p : Nat} {v0 v1 v2 : Value} (h : Tri X p v0 v1 v2) (k : GrwS S X X') (hp : p ∉ S) : Tri X' p v0 v1 v2 :=
 ⟨Nat.lt_of_lt_of_le h.1 k.size, fun S' u hp' k' => h.2 (S ++ S') u (fun hm => (List.mem_append.1 hm).elim hp hp') ((k.mono (fun i hi => List.mem_append.2 (.inl hi))).trans (k'.mono (fun i hi => List.mem_append.2 (.inr hi))))⟩
theorem Tri.kept {X X' : World} {p : Nat} {v0 v1 v2 : Value} (h : Tri X p v0 v1 v2) (k : Kept X X') : Tri X' p v0 v1 v2 := h.grw (k.toS []) (by simp)
theorem Tri.new (X : World) (v0 v1 v2 : Value) (t : TypeId) : Tri (X.alloc (.cells #[v0, v1, v2] t)) X.heap.size v0 v1 v2 :=
 ⟨by simp, fun S u hp k => by
  have hb := k.block X.heap.size (by simp) hp
  refine ⟨⟨?_, ?_⟩, ?_⟩
  ·rw [World.cell?_of_block (a := ⟨X.heap.size, 0, none⟩) hb]; simp [go_sem]
  ·rw [World.cell?_of_block (a := ⟨X.heap.size, 1, none⟩) hb]; simp [go_sem]
  ·rw [World.cell?_of_block (a := ⟨X.heap.size, 2, none⟩) hb]; simp [go_sem]⟩
theorem add_all (a b : Nm) (ra : Rg a.mag) (rb : Rg b.mag) (la : a.mag.length < 60000000) (lb : b.mag.length < 60000000) : ∃ (rp : Nm) (pe : Int), (∀ (u : World) (a1 a2 : Option Addr) (c1 c2 : Nat), Tab u → Sl u (.slice a1 a.mag.length c1) a.mag → Sl u (.slice a2 b.mag.length c2) b.mag → Calls Tryz.prog 32 #[.agg #[.bool a.neg, .slice a1 a.mag.length c1, .int .i64 a.exp], .agg #[.bool b.neg, .slice a2 b.mag.length c2, .int .i64 b.exp]] u fun e w' => ∃ v, e = .returned (.tuple #[v, .int .i64 pe]) ∧ New u w' v rp ∧ Kept u w') ∧ ((vld a && vld b) = false → rp = ⟨false, [], 0⟩ ∧ pe = 7) ∧ ((vld a && vld b) = true → if vld (pls a b) = true then rp = pls a b ∧ pe = 0 else rp = ⟨false, [], 0⟩ ∧ pe = 2) := by
 cases hok : (vld a && vld b) with
 | false =>
  refine ⟨⟨false, [], 0⟩, 7, fun u a1 a2 c1 c2 hT h1 h2 => ?_, fun _ => ⟨rfl, rfl⟩, fun h => (by cases h)⟩
  refine (add_bad u a.neg a.mag a.exp ra la a1 c1 b.neg b.mag b.exp rb lb a2 c2 h1 h2 hok).mono ?_
  rintro e w' ⟨rfl, k⟩
  exact ⟨_, rfl, new_zero _ _, k⟩
 | true =>
  obtain ⟨va, vb⟩ := Bool.and_eq_true_iff.1 hok
  have hans := add_ans a b va vb
  by_cases hv : vld (pls a b) = true
  ·rw [if_pos hv] at hans
   refine ⟨_, 0, fun u a1 a2 c1 c2 hT h1 h2 => addz_ok u hT a.neg a.mag a.exp va a1 c1 b.neg b.mag b.exp vb a2 c2 h1 h2 _ hans, fun h => (by cases h), fun _ => ?_⟩
   rw [if_pos hv]
   exact ⟨rfl, rfl⟩
  ·rw [if_neg hv] at hans
   refine ⟨⟨false, [], 0⟩, 2, fun u a1 a2 c1 c2 hT h1 h2 => ?_, fun h => (by cases h), fun _ => ?_⟩
   ·refine (addz_no u hT a.neg a.mag a.exp va a1 c1 b.neg b.mag b.exp vb a2 c2 h1 h2 hans).mono ?_
    rintro e w' ⟨rfl, k⟩
    exact ⟨_, rfl, new_zero _ _, k⟩
   ·rw [if_neg hv]
    exact ⟨rfl, rfl⟩
theorem sub_all (a b : Nm) (ra : Rg a.mag) (rb : Rg b.mag) (la : a.mag.length < 60000000) (lb : b.mag.length < 60000000) : ∃ (rp : Nm) (pe : Int), (∀ (u : World) (a1 a2 : Option Addr) (c1 c2 : Nat), Tab u → Sl u (.slice a1 a.mag.length c1) a.mag → Sl u (.slice a2 b.mag.length c2) b.mag → Calls Tryz.prog 33 #[.agg #[.bool a.neg, .slice a1 a.mag.length c1, .int .i64 a.exp], .agg #[.bool b.neg, .slice a2 b.mag.length c2, .int .i64 b.exp]] u fun e w' => ∃ v, e = .returned (.tuple #[v, .int .i64 pe]) ∧ New u w' v rp ∧ Kept u w') ∧ ((vld a && vld b) = false → rp = ⟨false, [], 0⟩ ∧ pe = 7) ∧ ((vld a && vld b) = true → if vld (pls a (trn b)) = true then rp = pls a (trn b) ∧ pe = 0 else rp = ⟨false, [], 0⟩ ∧ pe = 2) := by
 cases hok : (vld a && vld b) with
 | false =>
  refine ⟨⟨false, [], 0⟩, 7, fun u a1 a2 c1 c2 hT h1 h2 => ?_, fun _ => ⟨rfl, rfl⟩, fun h => (by cases h)⟩
  refine (sub_bad u a.neg a.mag a.exp ra la a1 c1 b.neg b.mag b.exp rb lb a2 c2 h1 h2 hok).mono ?_
  rintro e w' ⟨rfl, k⟩
  exact ⟨_, rfl, new_zero _ _, k⟩
 | true =>
  obtain ⟨va, vb⟩ := Bool.and_eq_true_iff.1 hok
  have hans := sub_ans a b va vb
  by_cases hv : vld (pls a (trn b)) = true
  ·rw [if_pos hv] at hans
   refine ⟨_, 0, fun u a1 a2 c1 c2 hT h1 h2 => subz_ok u hT a.neg a.mag a.exp va a1 c1 b.neg b.mag b.exp vb a2 c2 h1 h2 _ hans, fun h => (by cases h), fun _ => ?_⟩
   rw [if_pos hv]
   exact ⟨rfl, rfl⟩
  ·rw [if_neg hv] at hans
   refine ⟨⟨false, [], 0⟩, 2, fun u a1 a2 c1 c2 hT h1 h2 => ?_, fun h => (by cases h), fun _ => ?_⟩
   ·refine (subz_no u hT a.neg a.mag a.exp va a1 c1 b.neg b.mag b.exp vb a2 c2 h1 h2 hans).mono ?_
    rintro e w' ⟨rfl, k⟩
    exact ⟨_, rfl, new_zero _ _, k⟩
   ·rw [if_neg hv]
    exact ⟨rfl, rfl⟩
theorem mul_all (a b : Nm) (ra : Rg a.mag) (rb : Rg b.mag) (la : a.mag.length < 60000000) (lb : b.mag.length < 60000000) : ∃ (rp : Nm) (pe : Int), (∀ (u : World) (a1 a2 : Option Addr) (c1 c2 : Nat), Tab u → Sl u (.slice a1 a.mag.length c1) a.mag → Sl u (.slice a2 b.mag.length c2) b.mag → Calls Tryz.prog 34 #[.agg #[.bool a.neg, .slice a1 a.mag.length c1, .int .i64 a.exp], .agg #[.bool b.neg, .slice a2 b.mag.length c2, .int .i64 b.exp]] u fun e w' => ∃ v, e = .returned (.tuple #[v, .int .i64 pe]) ∧ New u w' v rp ∧ Kept u w') ∧ ((vld a && vld b) = false → rp = ⟨false, [], 0⟩ ∧ pe = 7) ∧ ((vld a && vld b) = true → if vld (tms a b) = true then rp = tms a b ∧ pe = 0 else rp = ⟨false, [], 0⟩ ∧ pe = 2) := by
 cases hok : (vld a && vld b) with
 | false =>
  refine ⟨⟨false, [], 0⟩, 7, fun u a1 a2 c1 c2 hT h1 h2 => ?_, fun _ => ⟨rfl, rfl⟩, fun h => (by cases h)⟩
  refine (mul_bad u a.neg a.mag a.exp ra la a1 c1 b.neg b.mag b.exp rb lb a2 c2 h1 h2 hok).mono ?_
  rintro e w' ⟨rfl, k⟩
  exact ⟨_, rfl, new_zero _ _, k⟩
 | true =>
  obtain ⟨va, vb⟩ := Bool.and_eq_true_iff.1 hok
  have hans := mul_ans a b va vb
  by_cases hv : vld (tms a b) = true
  ·rw [if_pos hv] at hans
   refine ⟨_, 0, fun u a1 a2 c1 c2 hT h1 h2 => mulz_ok u hT a.neg a.mag a.exp va a1 c1 b.neg b.mag b.exp vb a2 c2 h1 h2 _ hans, fun h => (by cases h), fun _ => ?_⟩
   rw [if_pos hv]
   exact ⟨rfl, rfl⟩
  ·rw [if_neg hv] at hans
   refine ⟨⟨false, [], 0⟩, 2, fun u a1 a2 c1 c2 hT h1 h2 => ?_, fun h => (by cases h), fun _ => ?_⟩
   ·refine (mulz_no u hT a.neg a.mag a.exp va a1 c1 b.neg b.mag b.exp vb a2 c2 h1 h2 hans).mono ?_
    rintro e w' ⟨rfl, k⟩
    exact ⟨_, rfl, new_zero _ _, k⟩
   ·rw [if_neg hv]
    exact ⟨rfl, rfl⟩
theorem cmp_all (a b : Nm) (ra : Rg a.mag) (rb : Rg b.mag) (la : a.mag.length < 60000000) (lb : b.mag.length < 60000000) : ∃ (sv se : Int), (∀ (u : World) (a1 a2 : Option Addr) (c1 c2 : Nat), Sl u (.slice a1 a.mag.length c1) a.mag → Sl u (.slice a2 b.mag.length c2) b.mag → Calls Tryz.prog 35 #[.agg #[.bool a.neg, .slice a1 a.mag.length c1, .int .i64 a.exp], .agg #[.bool b.neg, .slice a2 b.mag.length c2, .int .i64 b.exp]] u fun e w' => e = .returned (.tuple #[.int .i64 sv, .int .i64 se]) ∧ Kept u w') ∧ ((vld a && vld b) = false → sv = 0 ∧ se = 7) ∧ ((vld a && vld b) = true → se = 0 ∧ sgz (pls a (trn b)).neg (pls a (trn b)).mag = sv) := by
 cases hok : (vld a && vld b) with
 | false =>
  exact ⟨0, 7, fun u a1 a2 c1 c2 h1 h2 => cmp_bad u a.neg a.mag a.exp ra la a1 c1 b.neg b.mag b.exp rb lb a2 c2 h1 h2 hok, fun _ => ⟨rfl, rfl⟩, fun h => (by cases h)⟩
 | true =>
  obtain ⟨va, vb⟩ := Bool.and_eq_true_iff.1 hok
  have qa := vld_cn a va
  have qb := vld_cn b vb
  refine ⟨_, 0, fun u a1 a2 c1 c2 h1 h2 => cmp_any (-1048576) u a.neg a.mag a.exp va a1 c1 b.neg b.mag b.exp vb a2 c2 (fun _ => qa.2.2.1) (fun _ => qb.2.2.1) h1 h2, fun h => (by cases h), fun _ => ⟨rfl, ?_⟩⟩
  exact ord_cz (-1048576) a b va vb (fun _ => qa.2.2.1) (fun _ => qb.2.2.1)
theorem new_rw2 {w0 w : World} {v : Value} {r : Nm} (h : New w0 w v r) : ∃ pa pc, v = .agg #[.bool r.neg, .slice pa r.mag.length pc, .int .i64 r.exp] ∧ Rw w (.slice pa r.mag.length pc) 3 (ints r.mag) ∧ (∀ b ∈ blk (.slice pa r.mag.length pc), w0.heap.size ≤ b) ∧ (r.mag = [] → pa = none ∧ pc = 0) := by
 rcases h with ⟨rfl, rfl⟩ | ⟨g, cap, rfl, hg, ho, hne⟩
 ·exact ⟨none, 0, rfl, .inl ⟨rfl, rfl⟩, fun b hb => (by cases hb), fun _ => ⟨rfl, rfl⟩⟩
 ·refine ⟨_, _, rfl, .inr ⟨g, cap, by rw [List.length_map], own_v.1 ho⟩, fun b hb => ?_, fun h => absurd h hne⟩
  obtain rfl : b = g := by simpa [blk] using hb
  exact hg
theorem digs_div_len (v k : Nat) : (digs (v / 2 ^ k)).length ≤ (digs v).length := digs_mono _ _ (Nat.div_le_self _ _)
theorem pls_ok (a b : Nm) (ha : vld a = true) (hb : vld b = true) : Rg (pls a b).mag ∧ (pls a b).mag.length < 10000000 := by
 have qa := vld_cn a ha
 have qb := vld_cn b hb
 unfold pls
 split
 ·exact ⟨qb.1.1.rg, by have := qb.2.1; omega⟩
 ·split
  ·exact ⟨qa.1.1.rg, by have := qa.2.1; omega⟩
  ·have hr := nrm_rg (decide (tot a b (min a.exp b.exp) < 0)) (tot a b (min a.exp b.exp)).natAbs (min a.exp b.exp)
   refine ⟨hr.1, ?_⟩
   rw [hr.2]
   refine Nat.lt_of_le_of_lt (digs_div_len _ _) ?_
   obtain ⟨N, hN⟩ : ∃ N : Nat, N = 80000 := ⟨_, rfl⟩
   have h1 := nv_bl_mul a.mag (a.exp - min a.exp b.exp).toNat
   have h2 := nv_bl_mul b.mag (b.exp - min a.exp b.exp).toNat
   have b1 : bl (nv a.mag) ≤ 60000 := Nat.le_trans (bl_le _ _ (nv_lt a.mag qa.1.1)) (by omega)
   have b2 : bl (nv b.mag) ≤ 60000 := Nat.le_trans (bl_le _ _ (nv_lt b.mag qb.1.1)) (by omega)
   have p1 := pow_le_int (bl (nv a.mag) + (a.exp - min a.exp b.exp).toNat) (30 * N) (by omega)
   have p2 := pow_le_int (bl (nv b.mag) + (b.exp - min a.exp b.exp).toNat) (30 * N) (by omega)
   have s1 := sg_abs a.neg _ _ h1.1 h1.2
   have s2 := sg_abs b.neg _ _ h2.1 h2.2
   have hlt : (tot a b (min a.exp b.exp)).natAbs < 2 ^ (30 * (N + 1)) := by
    have e : ((2 ^ (30 * N) : Nat) : Int) = (2 : Int) ^ (30 * N) := by rw [Int.natCast_pow]; rfl
    have e2 : 2 ^ (30 * (N + 1)) = 2 ^ (30 * N) * 1073741824 := pow30m N
    unfold tot
    omega
   have := digs_length_le _ _ hlt
   omega
theorem tms_ok (a b : Nm) (ha : vld a = true) (hb : vld b = true) : Rg (tms a b).mag ∧ (tms a b).mag.length < 10000000 := by
 have qa := vld_cn a ha
 have qb := vld_cn b hb
 have hr := nrm_rg (a.neg != b.neg) (nv a.mag * nv b.mag) (a.exp + b.exp)
 refine ⟨hr.1, ?_⟩
 show (nrm (a.neg != b.neg) (nv a.mag * nv b.mag) (a.exp + b.exp)).mag.length < _
 rw [hr.2]
 refine Nat.lt_of_le_of_lt (digs_div_len _ _) ?_
 obtain ⟨N, hN⟩ : ∃ N : Nat, N = 4000 := ⟨_, rfl⟩
 have h3 : nv a.mag * nv b.mag < 2 ^ (30 * N) := by
  have := Nat.mul_lt_mul'' (nv_lt a.mag qa.1.1) (nv_lt b.mag qb.1.1)
  rw [← Nat.pow_add] at this
  exact Nat.lt_of_lt_of_le this (Nat.pow_le_pow_right (by decide) (by omega))
 have := digs_length_le _ _ h3
 omega
theorem twos_true (w0 w : World) (hT : Tab w0) (kb : Nat) (vL vW : Value) (E : List Ent) (hK : KeepAt w0 w kb vL vW E) (hE : E.length + 3 ≤ 300) (a b : Nm) (ra : Rg a.mag) (rb : Rg b.mag) (la : a.mag.length ≤ 2100) (lb : b.mag.length ≤ 2100) (q1 q2 : Option Addr) (d1 d2 : Nat) (hc1 : q1 = none → d1 = 0) (hc2 : q2 = none → d2 = 0) (hr1 : Sl w0 (.slice q1 a.mag.length d1) a.mag) (hr2 : Sl w0 (.slice q2 b.mag.length d2) b.mag) :
  Calls Tryz.prog 7 #[.pointer (some ⟨kb, 0, none⟩), .agg #[.bool a.neg, .slice q1 a.mag.length d1, .int .i64 a.exp], .agg #[.bool b.neg, .slice q2 b.mag.length d2, .int .i64 b.exp]] w fun e w' => e = .returned (.bool true) ∧ ∃ vL' vW' E', KeepAt w0 w' kb vL' vW' E' ∧ E'.length ≤ E.length + 3 ∧ GrwS (kb :: (blk vL ++ blk vW)) w w' := by
 obtain ⟨rp, pe, hAdd, hAb, hAo⟩ := add_all a b ra rb (by omega) (by omega)
 obtain ⟨rq, qe, hSub, hSb, hSo⟩ := sub_all a b ra rb (by omega) (by omega)
 obtain ⟨rr, re, hMul, hMb, hMo⟩ := mul_all a b ra rb (by omega) (by omega)
 obtain ⟨sv, se, hCmp, hCb, hCo⟩ := cmp_all a b ra rb (by omega) (by omega)
 have HT : Hid (∀ u, Kept w0 u → Tab u) := fun u k => hT.kept k
 have HL1 : Hid (∀ u, Kept w0 u → Sl u (.slice q1 a.mag.length d1) a.mag) := fun u k => hr1.kept k
 have HL2 : Hid (∀ u, Kept w0 u → Sl u (.slice q2 b.mag.length d2) b.mag) := fun u k => hr2.kept k
 have HN1 : Hid (∀ u, Kept w0 u → RNp (fun c => c < w0.heap.size) u (.agg #[.bool a.neg, .slice q1 a.mag.length d1, .int .i64 a.exp]) a) := fun u k => by
  have h : RNp (fun _ => True) w0 (.agg #[.bool a.neg, .slice q1 a.mag.length d1, .int .i64 a.exp]) a := ⟨_, rfl, _, _, rfl, hc1, hr1, fun _ _ _ _ => trivial⟩
  exact (h.here.imp (fun b hb => hb.2)).kept k
 have HN2 : Hid (∀ u, Kept w0 u → RNp (fun c => c < w0.heap.size) u (.agg #[.bool b.neg, .slice q2 b.mag.length d2, .int .i64 b.exp]) b) := fun u k => by
  have h : RNp (fun _ => True) w0 (.agg #[.bool b.neg, .slice q2 b.mag.length d2, .int .i64 b.exp]) b := ⟨_, rfl, _, _, rfl, hc2, hr2, fun _ _ _ _ => trivial⟩
  exact (h.here.imp (fun b hb => hb.2)).kept k
 have KV1 : Hid (∀ u, Kept w0 u → Calls Tryz.prog 11 #[.agg #[.bool a.neg, .slice q1 a.mag.length d1, .int .i64 a.exp]] u fun e w' => e = .returned (.bool (vld a)) ∧ Kept u w') := fun u k => rvalid2_any a ra (by omega) _ u ⟨_, rfl, hr1.kept k⟩
 have KV2 : Hid (∀ u, Kept w0 u → Calls Tryz.prog 11 #[.agg #[.bool b.neg, .slice q2 b.mag.length d2, .int .i64 b.exp]] u fun e w' => e = .returned (.bool (vld b)) ∧ Kept u w') := fun u k => rvalid2_any b rb (by omega) _ u ⟨_, rfl, hr2.kept k⟩
 have HSl : ∀ (L : List Int) (u : World) (g cap : Nat), Own u g cap (L ++ [-71, -72, -73]) → Sl u (.slice (some ⟨g, 0, none⟩) L.length cap) L := fun L u g cap ho => by
  have hs := ho.slTake L.length (by simp)
  rwa [List.take_left' rfl] at hs
 have HADD : Hid (∀ (u : World) (g1 g2 c1 c2 : Nat), Kept w0 u → Own u g1 c1 (a.mag ++ [-71, -72, -73]) → Own u g2 c2 (b.mag ++ [-71, -72, -73]) → Calls Tryz.prog 32 #[.agg #[.bool a.neg, .slice (some ⟨g1, 0, none⟩) a.mag.length c1, .int .i64 a.exp], .agg #[.bool b.neg, .slice (some ⟨g2, 0, none⟩) b.mag.length c2, .int .i64 b.exp]] u fun e w' => ∃ v, e = .returned (.tuple #[v, .int .i64 pe]) ∧ New u w' v rp ∧ Kept u w') := fun u g1 g2 c1 c2 k h1 h2 => hAdd u _ _ c1 c2 (HT.out u k) (HSl _ u g1 c1 h1) (HSl _ u g2 c2 h2)
 have HSUB : Hid (∀ (u : World) (g1 g2 c1 c2 : Nat), Kept w0 u → Own u g1 c1 (a.mag ++ [-71, -72, -73]) → Own u g2 c2 (b.mag ++ [-71, -72, -73]) → Calls Tryz.prog 33 #[.agg #[.bool a.neg, .slice (some ⟨g1, 0, none⟩) a.mag.length c1, .int .i64 a.exp], .agg #[.bool b.neg, .slice (some ⟨g2, 0, none⟩) b.mag.length c2, .int .i64 b.exp]] u fun e w' => ∃ v, e = .returned (.tuple #[v, .int .i64 qe]) ∧ New u w' v rq ∧ Kept u w') := fun u g1 g2 c1 c2 k h1 h2 => hSub u _ _ c1 c2 (HT.out u k) (HSl _ u g1 c1 h1) (HSl _ u g2 c2 h2)
 have HMUL : Hid (∀ (u : World) (g1 g2 c1 c2 : Nat), Kept w0 u → Own u g1 c1 (a.mag ++ [-71, -72, -73]) → Own u g2 c2 (b.mag ++ [-71, -72, -73]) → Calls Tryz.prog 34 #[.agg #[.bool a.neg, .slice (some ⟨g1, 0, none⟩) a.mag.length c1, .int .i64 a.exp], .agg #[.bool b.neg, .slice (some ⟨g2, 0, none⟩) b.mag.length c2, .int .i64 b.exp]] u fun e w' => ∃ v, e = .returned (.tuple #[v, .int .i64 re]) ∧ New u w' v rr ∧ Kept u w') := fun u g1 g2 c1 c2 k h1 h2 => hMul u _ _ c1 c2 (HT.out u k) (HSl _ u g1 c1 h1) (HSl _ u g2 c2 h2)
 have HCMP : Hid (∀ (u : World) (g1 g2 c1 c2 : Nat), Own u g1 c1 (a.mag ++ [-71, -72, -73]) → Own u g2 c2 (b.mag ++ [-71, -72, -73]) → Calls Tryz.prog 35 #[.agg #[.bool a.neg, .slice (some ⟨g1, 0, none⟩) a.mag.length c1, .int .i64 a.exp], .agg #[.bool b.neg, .slice (some ⟨g2, 0, none⟩) b.mag.length c2, .int .i64 b.exp]] u fun e w' => e = .returned (.tuple #[.int .i64 sv, .int .i64 se]) ∧ Kept u w') := fun u g1 g2 c1 c2 h1 h2 => hCmp u _ _ c1 c2 (HSl _ u g1 c1 h1) (HSl _ u g2 c2 h2)
 have HLN1 : Hid (∀ u, Kept w0 u → Calls Tryz.prog 24 #[.agg #[.bool a.neg, .slice q1 a.mag.length d1, .int .i64 a.exp]] u fun e w' => (∃ g cap, e = .returned (.tuple #[.slice (some ⟨g, 0, none⟩) (a.mag.length + 3) cap, .agg #[.bool a.neg, .slice (some ⟨g, 0, none⟩) a.mag.length cap, .int .i64 a.exp]]) ∧ u.heap.size ≤ g ∧ Own w' g cap (a.mag ++ [-71, -72, -73])) ∧ Kept u w') := fun u k => lentNum_any a.neg a.exp a.mag (by omega) q1 d1 u (hr1.kept k)
 have HLN2 : Hid (∀ u, Kept w0 u → Calls Tryz.prog 24 #[.agg #[.bool b.neg, .slice q2 b.mag.length d2, .int .i64 b.exp]] u fun e w' => (∃ g cap, e = .returned (.tuple #[.slice (some ⟨g, 0, none⟩) (b.mag.length + 3) cap, .agg #[.bool b.neg, .slice (some ⟨g, 0, none⟩) b.mag.length cap, .int .i64 b.exp]]) ∧ u.heap.size ≤ g ∧ Own w' g cap (b.mag ++ [-71, -72, -73])) ∧ Kept u w') := fun u k => lentNum_any b.neg b.exp b.mag (by omega) q2 d2 u (hr2.kept k)
 have HBK1 : Hid (∀ (u : World) (g cap : Nat), Kept w0 u → Own u g cap (a.mag ++ [-71, -72, -73]) → Calls Tryz.prog 15 #[.slice (some ⟨g, 0, none⟩) (a.mag.length + 3) cap, .slice q1 a.mag.length d1] u fun e w' => e = .returned (.bool true) ∧ Grw g u w') := fun u g cap k ho => back_any a.mag (by omega) _ g cap u (hr1.kept k) ho
 have HBK2 : Hid (∀ (u : World) (g cap : Nat), Kept w0 u → Own u g cap (b.mag ++ [-71, -72, -73]) → Calls Tryz.prog 15 #[.slice (some ⟨g, 0, none⟩) (b.mag.length + 3) cap, .slice q2 b.mag.length d2] u fun e w' => e = .returned (.bool true) ∧ Grw g u w') := fun u g cap k ho => back_any b.mag (by omega) _ g cap u (hr2.kept k) ho
 have HAb : Hid ((vld a && vld b) = false → rp = ⟨false, [], 0⟩ ∧ pe = 7) := hAb
 have HSb : Hid ((vld a && vld b) = false → rq = ⟨false, [], 0⟩ ∧ qe = 7) := hSb
 have HMb : Hid ((vld a && vld b) = false → rr = ⟨false, [], 0⟩ ∧ re = 7) := hMb
 have HCb : Hid ((vld a && vld b) = false → sv = 0 ∧ se = 7) := hCb
 have HAo : Hid ((vld a && vld b) = true → if vld (pls a b) = true then rp = pls a b ∧ pe = 0 else rp = ⟨false, [], 0⟩ ∧ pe = 2) := hAo
 have HSo : Hid ((vld a && vld b) = true → if vld (pls a (trn b)) = true then rq = pls a (trn b) ∧ qe = 0 else rq = ⟨false, [], 0⟩ ∧ qe = 2) := hSo
 have HMo : Hid ((vld a && vld b) = true → if vld (tms a b) = true then rr = tms a b ∧ re = 0 else rr = ⟨false, [], 0⟩ ∧ re = 2) := hMo
 have HCo : Hid ((vld a && vld b) = true → se = 0 ∧ sgz (pls a (trn b)).neg (pls a (trn b)).mag = sv) := hCo
 have HLt : Hid (∀ b ∈ blks kb vL vW E, b < w.heap.size) := hK.lt
 have hw0 : w0.heap.size ≤ w.heap.size := hK.kept.below.size
 obtain ⟨X0, hX⟩ : ∃ X, X = ((w.alloc (.cells #[.bool a.neg, .slice q1 a.mag.length d1, .int .i64 a.exp] 29)).alloc (.cells #[.bool b.neg, .slice q2 b.mag.length d2, .int .i64 b.exp] 29)) := ⟨_, rfl⟩
 have kk0 : Kept w X0 := by rw [hX]; exact ((Kept.refl w).alloc _ _).alloc _ _
 have hs0 : X0.heap.size = w.heap.size + 2 := by rw [hX]; simp
 have k0 : Hid (Kept w0 X0) := hK.kept.trans kk0
 have g0 : Hid (Kept w X0) := kk0
 have TA0 : Hid (Tri X0 w.heap.size (.bool a.neg) (.slice q1 a.mag.length d1) (.int .i64 a.exp)) := by
  rw [hX]
  exact (Tri.new w _ _ _ _).kept ((Kept.refl _).alloc _ _)
 have TB0 : Hid (Tri X0 (w.heap.size + 1) (.bool b.neg) (.slice q2 b.mag.length d2) (.int .i64 b.exp)) := by
  have := Tri.new (w.alloc (.cells #[.bool a.neg, .slice q1 a.mag.length d1, .int .i64 a.exp] 29)) (.bool b.neg) (.slice q2 b.mag.length d2) (.int .i64 b.exp) 29
  rw [World.size_alloc] at this
  rw [hX]
  exact this
 have HK0 : Hid (KeepAt w0 X0 kb vL vW E) := hK.keptOn kk0
 clear hAdd hSub hMul hCmp hAb hSb hMb hCb hAo hSo hMo hCo hT hr1 hr2 hc1 hc2 hK kk0 HSl ra rb
 go_enter Tryz.func7, Tryz.ntmps7
 go_upto_region 1 with fail
 rw [← hX]
 clear hX
 obtain ⟨⟨c00, c01⟩, c02⟩ := TA0.out.now
 go_wp2_with fail
 refine (HLN1.out _ k0.out).mono ?_
 rintro e w1 ⟨⟨ga, ka, rfl, hg, hO⟩, hk⟩
 have hgl := hO.lt
 clear c00 c01 c02
 go_upto_region 2 with fail
 obtain ⟨X1, hX⟩ : ∃ X, X = w1.alloc (.cells #[.bool a.neg, .slice (some ⟨ga, 0, none⟩) a.mag.length ka, .int .i64 a.exp] 29) := ⟨_, rfl⟩
 obtain ⟨px, hp⟩ : ∃ p, p = w1.heap.size := ⟨_, rfl⟩
 have kX : Kept X0 X1 := by rw [hX]; exact hk.alloc _ _
 have kw : Kept w1 X1 := by rw [hX]; exact (Kept.refl _).alloc _ _
 have hsz1 : X1.heap.size = px + 1 := by rw [hX, hp]; simp
 have hmono1 : X0.heap.size ≤ px := by rw [hp]; exact hk.below.size
 have bga : X0.heap.size ≤ ga ∧ ga < px := ⟨hg, by rw [hp]; exact hgl⟩
 have Ox1 : Hid (Own X1 ga ka (a.mag ++ [-71, -72, -73])) := hO.kept kw
 have Tx1 : Hid (Tri X1 px (.bool a.neg) (.slice (some ⟨ga, 0, none⟩) a.mag.length ka) (.int .i64 a.exp)) := by rw [hX, hp]; exact Tri.new _ _ _ _ _
 have TA1 : Hid (Tri X1 w.heap.size (.bool a.neg) (.slice q1 a.mag.length d1) (.int .i64 a.exp)) := TA0.out.kept kX
 have TB1 : Hid (Tri X1 (w.heap.size + 1) (.bool b.neg) (.slice q2 b.mag.length d2) (.int .i64 b.exp)) := TB0.out.kept kX
 have HK1 : Hid (KeepAt w0 X1 kb vL vW E) := HK0.out.keptOn kX
 have k1 : Hid (Kept w0 X1) := k0.out.trans kX
 have g1 : Hid (Kept w X1) := g0.out.trans kX
 clear TA0 TB0  HK0 k0 g0
 rw [← hX, ← hp]
 clear hX hp hk kX kw hg hO hgl
 obtain ⟨⟨c00, c01⟩, c02⟩ := TB1.out.now
 go_wp2_with fail
 refine (HLN2.out _ k1.out).mono ?_
 rintro e w2 ⟨⟨gb, kb2, rfl, hg, hO⟩, hk⟩
 have hgl := hO.lt
 clear c00 c01 c02
 go_upto_region 3 with fail
 obtain ⟨X2, hX⟩ : ∃ X, X = w2.alloc (.cells #[.bool b.neg, .slice (some ⟨gb, 0, none⟩) b.mag.length kb2, .int .i64 b.exp] 29) := ⟨_, rfl⟩
 obtain ⟨py, hp⟩ : ∃ p, p = w2.heap.size := ⟨_, rfl⟩
 have kX : Kept X1 X2 := by rw [hX]; exact hk.alloc _ _
 have kw : Kept w2 X2 := by rw [hX]; exact (Kept.refl _).alloc _ _
 have hsz2 : X2.heap.size = py + 1 := by rw [hX, hp]; simp
 have hmono2 : X1.heap.size ≤ py := by rw [hp]; exact hk.below.size
 have bgb : X1.heap.size ≤ gb ∧ gb < py := ⟨hg, by rw [hp]; exact hgl⟩
 have Oy2 : Hid (Own X2 gb kb2 (b.mag ++ [-71, -72, -73])) := hO.kept kw
 have Ty2 : Hid (Tri X2 py (.bool b.neg) (.slice (some ⟨gb, 0, none⟩) b.mag.length kb2) (.int .i64 b.exp)) := by rw [hX, hp]; exact Tri.new _ _ _ _ _
 have TA2 : Hid (Tri X2 w.heap.size (.bool a.neg) (.slice q1 a.mag.length d1) (.int .i64 a.exp)) := TA1.out.kept kX
 have TB2 : Hid (Tri X2 (w.heap.size + 1) (.bool b.neg) (.slice q2 b.mag.length d2) (.int .i64 b.exp)) := TB1.out.kept kX
 have Tx2 : Hid (Tri X2 px (.bool a.neg) (.slice (some ⟨ga, 0, none⟩) a.mag.length ka) (.int .i64 a.exp)) := Tx1.out.kept kX
 have Ox2 : Hid (Own X2 ga ka (a.mag ++ [-71, -72, -73])) := Ox1.out.kept kX
 have HK2 : Hid (KeepAt w0 X2 kb vL vW E) := HK1.out.keptOn kX
 have k2 : Hid (Kept w0 X2) := k1.out.trans kX
 have g2 : Hid (Kept w X2) := g1.out.trans kX
 clear TA1 TB1 Tx1 Ox1 HK1 k1 g1
 rw [← hX, ← hp]
 clear hX hp hk kX kw hg hO hgl
 have KC0 : Kept X2 X2 := Kept.refl _
 go_cut [11] from 38 (fun bv wx => bv = .bool (!(vld a && vld b)) ∧ Kept X2 wx)
 case first =>
  obtain ⟨⟨c00, c01⟩, c02⟩ := TA2.out.now
  obtain ⟨⟨c10, c11⟩, c12⟩ := TB2.out.now
  go_wp2_with fail
  refine (KV1.out _ k2.out).mono ?_
  rintro e u1 ⟨rfl, kv1⟩
  clear c00 c01 c02 c10 c11 c12
  obtain ⟨⟨c00, c01⟩, c02⟩ := (TB2.out.kept kv1).now
  cases hva : vld a with
  | false =>
   go_wp2_with fail
   go_meet
   case rel => exact ⟨by simp [hva], kv1⟩
  | true =>
   go_wp2_with fail
   refine (KV2.out _ (k2.out.trans kv1)).mono ?_
   rintro e u2 ⟨rfl, kv2⟩
   cases hvb : vld b with
   | false =>
    go_wp2_with fail
    go_meet
    case rel => exact ⟨by simp [hva, hvb], kv1.trans kv2⟩
   | true =>
    go_wp2_with fail
    go_meet
    case rel => exact ⟨by simp [hva, hvb], kv1.trans kv2⟩
 case rest =>
 obtain ⟨hbv, hk⟩ := hcut
 obtain ⟨X3, hX3⟩ : ∃ X, X = wc := ⟨_, rfl⟩
 have hk : Kept X2 X3 := by rw [hX3]; exact hk
 have hmono3 : X2.heap.size ≤ X3.heap.size := hk.below.size
 have TA3 : Hid (Tri X3 w.heap.size (.bool a.neg) (.slice q1 a.mag.length d1) (.int .i64 a.exp)) := TA2.out.kept hk
 have TB3 : Hid (Tri X3 (w.heap.size + 1) (.bool b.neg) (.slice q2 b.mag.length d2) (.int .i64 b.exp)) := TB2.out.kept hk
 have Tx3 : Hid (Tri X3 px (.bool a.neg) (.slice (some ⟨ga, 0, none⟩) a.mag.length ka) (.int .i64 a.exp)) := Tx2.out.kept hk
 have Ty3 : Hid (Tri X3 py (.bool b.neg) (.slice (some ⟨gb, 0, none⟩) b.mag.length kb2) (.int .i64 b.exp)) := Ty2.out.kept hk
 have Ox3 : Hid (Own X3 ga ka (a.mag ++ [-71, -72, -73])) := Ox2.out.kept hk
 have Oy3 : Hid (Own X3 gb kb2 (b.mag ++ [-71, -72, -73])) := Oy2.out.kept hk
 have HK3 : Hid (KeepAt w0 X3 kb vL vW E) := HK2.out.keptOn hk
 have k3 : Hid (Kept w0 X3) := k2.out.trans hk
 have g3 : Hid (Kept w X3) := g2.out.trans hk
 clear TA2 TB2 Tx2 Ty2 Ox2 Oy2 HK2 k2 g2
 rw [← hX3]
 clear hX3 hk KC0 KV1 KV2
 subst hbv
 obtain ⟨⟨c00, c01⟩, c02⟩ := Tx3.out.now
 obtain ⟨⟨c10, c11⟩, c12⟩ := Ty3.out.now
 go_wp2_with fail
 refine (HADD.out _ ga gb ka kb2 k3.out Ox3.out Oy3.out).mono ?_
 rintro e w4 ⟨v, rfl, hN, hk⟩
 obtain ⟨sP, tP, rfl, hR, hB, hZ⟩ := new_rw2 hN
 clear c00 c01 c02 c10 c11 c12
 have hRl := hR.lt
 go_upto_region 5 with fail
 obtain ⟨X4, hX⟩ : ∃ X, X = w4.alloc (.cells #[.bool rp.neg, .slice sP rp.mag.length tP, .int .i64 rp.exp] 29) := ⟨_, rfl⟩
 obtain ⟨pP, hp⟩ : ∃ p, p = w4.heap.size := ⟨_, rfl⟩
 have kX : Kept X3 X4 := by rw [hX]; exact hk.alloc _ _
 have kw : Kept w4 X4 := by rw [hX]; exact (Kept.refl _).alloc _ _
 have hsz4 : X4.heap.size = pP + 1 := by rw [hX, hp]; simp
 have hmono4 : X3.heap.size ≤ pP := by rw [hp]; exact hk.below.size
 have ZP : Hid (rp.mag = [] → sP = none ∧ tP = 0) := hZ
 have BP : Hid (∀ b ∈ blk (.slice sP rp.mag.length tP), X3.heap.size ≤ b ∧ b < pP) := fun b hb => ⟨hB b hb, by rw [hp]; exact hRl b hb⟩
 have RP4 : Hid (Rw X4 (.slice sP rp.mag.length tP) 3 (ints rp.mag)) := hR.kept kw
 have TP4 : Hid (Tri X4 pP (.bool rp.neg) (.slice sP rp.mag.length tP) (.int .i64 rp.exp)) := by rw [hX, hp]; exact Tri.new _ _ _ _ _
 have TA4 : Hid (Tri X4 w.heap.size (.bool a.neg) (.slice q1 a.mag.length d1) (.int .i64 a.exp)) := TA3.out.kept kX
 have TB4 : Hid (Tri X4 (w.heap.size + 1) (.bool b.neg) (.slice q2 b.mag.length d2) (.int .i64 b.exp)) := TB3.out.kept kX
 have Tx4 : Hid (Tri X4 px (.bool a.neg) (.slice (some ⟨ga, 0, none⟩) a.mag.length ka) (.int .i64 a.exp)) := Tx3.out.kept kX
 have Ty4 : Hid (Tri X4 py (.bool b.neg) (.slice (some ⟨gb, 0, none⟩) b.mag.length kb2) (.int .i64 b.exp)) := Ty3.out.kept kX
 have Ox4 : Hid (Own X4 ga ka (a.mag ++ [-71, -72, -73])) := Ox3.out.kept kX
 have Oy4 : Hid (Own X4 gb kb2 (b.mag ++ [-71, -72, -73])) := Oy3.out.kept kX
 have HK4 : Hid (KeepAt w0 X4 kb vL vW E) := HK3.out.keptOn kX
 have k4 : Hid (Kept w0 X4) := k3.out.trans kX
 have g4 : Hid (Kept w X4) := g3.out.trans kX
 clear TA3 TB3 Tx3 Ty3 Ox3 Oy3 HK3 k3 g3
 rw [← hX, ← hp]
 clear hX hp hk kX kw hN hR hB hZ hRl
 obtain ⟨⟨c00, c01⟩, c02⟩ := Tx4.out.now
 obtain ⟨⟨c10, c11⟩, c12⟩ := Ty4.out.now
 go_wp2_with fail
 refine (HSUB.out _ ga gb ka kb2 k4.out Ox4.out Oy4.out).mono ?_
 rintro e w5 ⟨v, rfl, hN, hk⟩
 obtain ⟨sQ, tQ, rfl, hR, hB, hZ⟩ := new_rw2 hN
 clear c00 c01 c02 c10 c11 c12
 have hRl := hR.lt
 go_upto_region 6 with fail
 obtain ⟨X5, hX⟩ : ∃ X, X = w5.alloc (.cells #[.bool rq.neg, .slice sQ rq.mag.length tQ, .int .i64 rq.exp] 29) := ⟨_, rfl⟩
 obtain ⟨pQ, hp⟩ : ∃ p, p = w5.heap.size := ⟨_, rfl⟩
 have kX : Kept X4 X5 := by rw [hX]; exact hk.alloc _ _
 have kw : Kept w5 X5 := by rw [hX]; exact (Kept.refl _).alloc _ _
 have hsz5 : X5.heap.size = pQ + 1 := by rw [hX, hp]; simp
 have hmono5 : X4.heap.size ≤ pQ := by rw [hp]; exact hk.below.size
 have ZQ : Hid (rq.mag = [] → sQ = none ∧ tQ = 0) := hZ
 have BQ : Hid (∀ b ∈ blk (.slice sQ rq.mag.length tQ), X4.heap.size ≤ b ∧ b < pQ) := fun b hb => ⟨hB b hb, by rw [hp]; exact hRl b hb⟩
 have RQ5 : Hid (Rw X5 (.slice sQ rq.mag.length tQ) 3 (ints rq.mag)) := hR.kept kw
 have TQ5 : Hid (Tri X5 pQ (.bool rq.neg) (.slice sQ rq.mag.length tQ) (.int .i64 rq.exp)) := by rw [hX, hp]; exact Tri.new _ _ _ _ _
 have TA5 : Hid (Tri X5 w.heap.size (.bool a.neg) (.slice q1 a.mag.length d1) (.int .i64 a.exp)) := TA4.out.kept kX
 have TB5 : Hid (Tri X5 (w.heap.size + 1) (.bool b.neg) (.slice q2 b.mag.length d2) (.int .i64 b.exp)) := TB4.out.kept kX
 have Tx5 : Hid (Tri X5 px (.bool a.neg) (.slice (some ⟨ga, 0, none⟩) a.mag.length ka) (.int .i64 a.exp)) := Tx4.out.kept kX
 have Ty5 : Hid (Tri X5 py (.bool b.neg) (.slice (some ⟨gb, 0, none⟩) b.mag.length kb2) (.int .i64 b.exp)) := Ty4.out.kept kX
 have TP5 : Hid (Tri X5 pP (.bool rp.neg) (.slice sP rp.mag.length tP) (.int .i64 rp.exp)) := TP4.out.kept kX
 have Ox5 : Hid (Own X5 ga ka (a.mag ++ [-71, -72, -73])) := Ox4.out.kept kX
 have Oy5 : Hid (Own X5 gb kb2 (b.mag ++ [-71, -72, -73])) := Oy4.out.kept kX
 have RP5 : Hid (Rw X5 (.slice sP rp.mag.length tP) 3 (ints rp.mag)) := RP4.out.kept kX
 have HK5 : Hid (KeepAt w0 X5 kb vL vW E) := HK4.out.keptOn kX
 have k5 : Hid (Kept w0 X5) := k4.out.trans kX
 have g5 : Hid (Kept w X5) := g4.out.trans kX
 clear TA4 TB4 Tx4 Ty4 TP4 Ox4 Oy4 RP4 HK4 k4 g4
 rw [← hX, ← hp]
 clear hX hp hk kX kw hN hR hB hZ hRl
 obtain ⟨⟨c00, c01⟩, c02⟩ := Tx5.out.now
 obtain ⟨⟨c10, c11⟩, c12⟩ := Ty5.out.now
 go_wp2_with fail
 refine (HMUL.out _ ga gb ka kb2 k5.out Ox5.out Oy5.out).mono ?_
 rintro e w6 ⟨v, rfl, hN, hk⟩
 obtain ⟨sR, tR, rfl, hR, hB, hZ⟩ := new_rw2 hN
 clear c00 c01 c02 c10 c11 c12
 have hRl := hR.lt
 go_upto_region 7 with fail
 obtain ⟨X6, hX⟩ : ∃ X, X = w6.alloc (.cells #[.bool rr.neg, .slice sR rr.mag.length tR, .int .i64 rr.exp] 29) := ⟨_, rfl⟩
 obtain ⟨pR, hp⟩ : ∃ p, p = w6.heap.size := ⟨_, rfl⟩
 have kX : Kept X5 X6 := by rw [hX]; exact hk.alloc _ _
 have kw : Kept w6 X6 := by rw [hX]; exact (Kept.refl _).alloc _ _
 have hsz6 : X6.heap.size = pR + 1 := by rw [hX, hp]; simp
 have hmono6 : X5.heap.size ≤ pR := by rw [hp]; exact hk.below.size
 have ZR : Hid (rr.mag = [] → sR = none ∧ tR = 0) := hZ
 have BR : Hid (∀ b ∈ blk (.slice sR rr.mag.length tR), X5.heap.size ≤ b ∧ b < pR) := fun b hb => ⟨hB b hb, by rw [hp]; exact hRl b hb⟩
 have RR6 : Hid (Rw X6 (.slice sR rr.mag.length tR) 3 (ints rr.mag)) := hR.kept kw
 have TR6 : Hid (Tri X6 pR (.bool rr.neg) (.slice sR rr.mag.length tR) (.int .i64 rr.exp)) := by rw [hX, hp]; exact Tri.new _ _ _ _ _
 have TA6 : Hid (Tri X6 w.heap.size (.bool a.neg) (.slice q1 a.mag.length d1) (.int .i64 a.exp)) := TA5.out.kept kX
 have TB6 : Hid (Tri X6 (w.heap.size + 1) (.bool b.neg) (.slice q2 b.mag.length d2) (.int .i64 b.exp)) := TB5.out.kept kX
 have Tx6 : Hid (Tri X6 px (.bool a.neg) (.slice (some ⟨ga, 0, none⟩) a.mag.length ka) (.int .i64 a.exp)) := Tx5.out.kept kX
 have Ty6 : Hid (Tri X6 py (.bool b.neg) (.slice (some ⟨gb, 0, none⟩) b.mag.length kb2) (.int .i64 b.exp)) := Ty5.out.kept kX
 have TP6 : Hid (Tri X6 pP (.bool rp.neg) (.slice sP rp.mag.length tP) (.int .i64 rp.exp)) := TP5.out.kept kX
 have TQ6 : Hid (Tri X6 pQ (.bool rq.neg) (.slice sQ rq.mag.length tQ) (.int .i64 rq.exp)) := TQ5.out.kept kX
 have Ox6 : Hid (Own X6 ga ka (a.mag ++ [-71, -72, -73])) := Ox5.out.kept kX
 have Oy6 : Hid (Own X6 gb kb2 (b.mag ++ [-71, -72, -73])) := Oy5.out.kept kX
 have RP6 : Hid (Rw X6 (.slice sP rp.mag.length tP) 3 (ints rp.mag)) := RP5.out.kept kX
 have RQ6 : Hid (Rw X6 (.slice sQ rq.mag.length tQ) 3 (ints rq.mag)) := RQ5.out.kept kX
 have HK6 : Hid (KeepAt w0 X6 kb vL vW E) := HK5.out.keptOn kX
 have k6 : Hid (Kept w0 X6) := k5.out.trans kX
 have g6 : Hid (Kept w X6) := g5.out.trans kX
 clear TA5 TB5 Tx5 Ty5 TP5 TQ5 Ox5 Oy5 RP5 RQ5 HK5 k5 g5
 rw [← hX, ← hp]
 clear hX hp hk kX kw hN hR hB hZ hRl
 obtain ⟨⟨c00, c01⟩, c02⟩ := Tx6.out.now
 obtain ⟨⟨c10, c11⟩, c12⟩ := Ty6.out.now
 go_wp2_with fail
 refine (HCMP.out _ ga gb ka kb2 Ox6.out Oy6.out).mono ?_
 rintro e X7 ⟨rfl, hk⟩
 have hmono7 : X6.heap.size ≤ X7.heap.size := hk.below.size
 clear c00 c01 c02 c10 c11 c12
 have TA7 : Hid (Tri X7 w.heap.size (.bool a.neg) (.slice q1 a.mag.length d1) (.int .i64 a.exp)) := TA6.out.kept hk
 have TB7 : Hid (Tri X7 (w.heap.size + 1) (.bool b.neg) (.slice q2 b.mag.length d2) (.int .i64 b.exp)) := TB6.out.kept hk
 have Tx7 : Hid (Tri X7 px (.bool a.neg) (.slice (some ⟨ga, 0, none⟩) a.mag.length ka) (.int .i64 a.exp)) := Tx6.out.kept hk
 have Ty7 : Hid (Tri X7 py (.bool b.neg) (.slice (some ⟨gb, 0, none⟩) b.mag.length kb2) (.int .i64 b.exp)) := Ty6.out.kept hk
 have TP7 : Hid (Tri X7 pP (.bool rp.neg) (.slice sP rp.mag.length tP) (.int .i64 rp.exp)) := TP6.out.kept hk
 have TQ7 : Hid (Tri X7 pQ (.bool rq.neg) (.slice sQ rq.mag.length tQ) (.int .i64 rq.exp)) := TQ6.out.kept hk
 have TR7 : Hid (Tri X7 pR (.bool rr.neg) (.slice sR rr.mag.length tR) (.int .i64 rr.exp)) := TR6.out.kept hk
 have Ox7 : Hid (Own X7 ga ka (a.mag ++ [-71, -72, -73])) := Ox6.out.kept hk
 have Oy7 : Hid (Own X7 gb kb2 (b.mag ++ [-71, -72, -73])) := Oy6.out.kept hk
 have RP7 : Hid (Rw X7 (.slice sP rp.mag.length tP) 3 (ints rp.mag)) := RP6.out.kept hk
 have RQ7 : Hid (Rw X7 (.slice sQ rq.mag.length tQ) 3 (ints rq.mag)) := RQ6.out.kept hk
 have RR7 : Hid (Rw X7 (.slice sR rr.mag.length tR) 3 (ints rr.mag)) := RR6.out.kept hk
 have HK7 : Hid (KeepAt w0 X7 kb vL vW E) := HK6.out.keptOn hk
 have k7 : Hid (Kept w0 X7) := k6.out.trans hk
 have g7 : Hid (Kept w X7) := g6.out.trans hk
 clear TA6 TB6 Tx6 Ty6 TP6 TQ6 TR6 Ox6 Oy6 RP6 RQ6 RR6 HK6 k6 g6
 clear hk HADD HSUB HMUL HCMP HLN1 HLN2
 go_upto_region 8 with fail
 obtain ⟨⟨c00, c01⟩, c02⟩ := TA7.out.now
 obtain ⟨⟨c10, c11⟩, c12⟩ := TB7.out.now
 go_wp2_with fail
 refine (HBK1.out _ ga ka k7.out Ox7.out).mono ?_
 rintro e X8 ⟨rfl, hG⟩
 have G8 : GrwS [ga] X7 X8 := hG.toS
 have GW8 : GrwS (kb :: (blk vL ++ blk vW)) w X8 := (g7.out.toS _).then G8 (fun i hi => .inr (by simp at hi; omega))
 have K8 : Kept w0 X8 := k7.out.grwS (fun i hi => by simp at hi; omega) G8
 clear c00 c01 c02 c10 c11 c12
 have hmono8 : X7.heap.size ≤ X8.heap.size := G8.size
 have TA8 : Hid (Tri X8 w.heap.size (.bool a.neg) (.slice q1 a.mag.length d1) (.int .i64 a.exp)) := TA7.out.grw G8 (by simp; omega)
 have TB8 : Hid (Tri X8 (w.heap.size + 1) (.bool b.neg) (.slice q2 b.mag.length d2) (.int .i64 b.exp)) := TB7.out.grw G8 (by simp; omega)
 have Tx8 : Hid (Tri X8 px (.bool a.neg) (.slice (some ⟨ga, 0, none⟩) a.mag.length ka) (.int .i64 a.exp)) := Tx7.out.grw G8 (by simp; omega)
 have Ty8 : Hid (Tri X8 py (.bool b.neg) (.slice (some ⟨gb, 0, none⟩) b.mag.length kb2) (.int .i64 b.exp)) := Ty7.out.grw G8 (by simp; omega)
 have TP8 : Hid (Tri X8 pP (.bool rp.neg) (.slice sP rp.mag.length tP) (.int .i64 rp.exp)) := TP7.out.grw G8 (by simp; omega)
 have TQ8 : Hid (Tri X8 pQ (.bool rq.neg) (.slice sQ rq.mag.length tQ) (.int .i64 rq.exp)) := TQ7.out.grw G8 (by simp; omega)
 have TR8 : Hid (Tri X8 pR (.bool rr.neg) (.slice sR rr.mag.length tR) (.int .i64 rr.exp)) := TR7.out.grw G8 (by simp; omega)
 have RP8 : Hid (Rw X8 (.slice sP rp.mag.length tP) 3 (ints rp.mag)) := RP7.out.grwS G8 (fun b hb h => by have := BP.out b hb; simp at h; omega)
 have RQ8 : Hid (Rw X8 (.slice sQ rq.mag.length tQ) 3 (ints rq.mag)) := RQ7.out.grwS G8 (fun b hb h => by have := BQ.out b hb; simp at h; omega)
 have RR8 : Hid (Rw X8 (.slice sR rr.mag.length tR) 3 (ints rr.mag)) := RR7.out.grwS G8 (fun b hb h => by have := BR.out b hb; simp at h; omega)
 have HK8 : Hid (KeepAt w0 X8 kb vL vW E) := HK7.out.grwS G8 (fun b hb h => by have := HLt.out b hb; simp at h; omega) (fun b hb => by simp at hb; omega)
 have Oy8 : Hid (Own X8 gb kb2 (b.mag ++ [-71, -72, -73])) := Oy7.out.grw hG (by omega)
 clear TA7 TB7 Tx7 Ty7 TP7 TQ7 TR7 RP7 RQ7 RR7 HK7 Oy7 Ox7
 obtain ⟨⟨c00, c01⟩, c02⟩ := TB8.out.now
 go_wp2_with fail
 refine (HBK2.out _ gb kb2 K8 Oy8.out).mono ?_
 rintro e X9 ⟨rfl, hG2⟩
 have G9 : GrwS [gb] X8 X9 := hG2.toS
 have GW9 : GrwS (kb :: (blk vL ++ blk vW)) w X9 := GW8.then G9 (fun i hi => .inr (by simp at hi; omega))
 have K9 : Kept w0 X9 := K8.grwS (fun i hi => by simp at hi; omega) G9
 have hmono9 : X8.heap.size ≤ X9.heap.size := G9.size
 clear c00 c01 c02
 have TA9 : Hid (Tri X9 w.heap.size (.bool a.neg) (.slice q1 a.mag.length d1) (.int .i64 a.exp)) := TA8.out.grw G9 (by simp; omega)
 have TB9 : Hid (Tri X9 (w.heap.size + 1) (.bool b.neg) (.slice q2 b.mag.length d2) (.int .i64 b.exp)) := TB8.out.grw G9 (by simp; omega)
 have Tx9 : Hid (Tri X9 px (.bool a.neg) (.slice (some ⟨ga, 0, none⟩) a.mag.length ka) (.int .i64 a.exp)) := Tx8.out.grw G9 (by simp; omega)
 have Ty9 : Hid (Tri X9 py (.bool b.neg) (.slice (some ⟨gb, 0, none⟩) b.mag.length kb2) (.int .i64 b.exp)) := Ty8.out.grw G9 (by simp; omega)
 have TP9 : Hid (Tri X9 pP (.bool rp.neg) (.slice sP rp.mag.length tP) (.int .i64 rp.exp)) := TP8.out.grw G9 (by simp; omega)
 have TQ9 : Hid (Tri X9 pQ (.bool rq.neg) (.slice sQ rq.mag.length tQ) (.int .i64 rq.exp)) := TQ8.out.grw G9 (by simp; omega)
 have TR9 : Hid (Tri X9 pR (.bool rr.neg) (.slice sR rr.mag.length tR) (.int .i64 rr.exp)) := TR8.out.grw G9 (by simp; omega)
 have RP9 : Hid (Rw X9 (.slice sP rp.mag.length tP) 3 (ints rp.mag)) := RP8.out.grwS G9 (fun b hb h => by have := BP.out b hb; simp at h; omega)
 have RQ9 : Hid (Rw X9 (.slice sQ rq.mag.length tQ) 3 (ints rq.mag)) := RQ8.out.grwS G9 (fun b hb h => by have := BQ.out b hb; simp at h; omega)
 have RR9 : Hid (Rw X9 (.slice sR rr.mag.length tR) 3 (ints rr.mag)) := RR8.out.grwS G9 (fun b hb h => by have := BR.out b hb; simp at h; omega)
 have HK9 : Hid (KeepAt w0 X9 kb vL vW E) := HK8.out.grwS G9 (fun b hb h => by have := HLt.out b hb; simp at h; omega) (fun b hb => by simp at hb; omega)
 clear TA8 TB8 Tx8 Ty8 TP8 TQ8 TR8 RP8 RQ8 RR8 HK8 Oy8 HBK1 HBK2 hG hG2 G8 G9
 generalize hbd : (!vld a || !vld b) = bd
 cases hok : (vld a && vld b) with
 | false =>
  obtain rfl : bd = true := by rw [← hbd, ← Bool.not_and, hok]; rfl
  clear hbd
  obtain ⟨rfl, rfl⟩ := HAb.out hok
  obtain ⟨rfl, rfl⟩ := HSb.out hok
  obtain ⟨rfl, rfl⟩ := HMb.out hok
  obtain ⟨rfl, rfl⟩ := HCb.out hok
  obtain ⟨rfl, rfl⟩ := ZP.out rfl
  obtain ⟨rfl, rfl⟩ := ZQ.out rfl
  obtain ⟨rfl, rfl⟩ := ZR.out rfl
  dsimp only [List.length_nil] at *
  have h0 : Kept X9 X9 := Kept.refl _
  obtain ⟨⟨c00, c01⟩, c02⟩ := (TA9.out.kept h0).now
  obtain ⟨⟨c10, c11⟩, c12⟩ := (TP9.out.kept h0).now
  go_wp2_with fail
  refine (is_bad _ _ _ _ _ _ _).mono ?_
  rintro e y1 ⟨rfl, q1⟩
  have h1 := h0.trans q1
  clear c00 c01 c02 c10 c11 c12
  obtain ⟨⟨c00, c01⟩, c02⟩ := (TA9.out.kept h1).now
  obtain ⟨⟨c10, c11⟩, c12⟩ := (TQ9.out.kept h1).now
  go_wp2_with fail
  refine (is_bad _ _ _ _ _ _ _).mono ?_
  rintro e y2 ⟨rfl, q2⟩
  have h2 := h1.trans q2
  clear c00 c01 c02 c10 c11 c12
  obtain ⟨⟨c00, c01⟩, c02⟩ := (TA9.out.kept h2).now
  obtain ⟨⟨c10, c11⟩, c12⟩ := (TR9.out.kept h2).now
  go_wp2_with fail
  refine (is_bad _ _ _ _ _ _ _).mono ?_
  rintro e y3 ⟨rfl, q3⟩
  have h3 := h2.trans q3
  clear c00 c01 c02 c10 c11 c12
  go_wp2_with fail
  go_ret
  exact ⟨rfl, vL, vW, E, HK9.out.keptOn h3, by omega, GW9.trans (h3.toS _)⟩
 | true =>
  obtain rfl : bd = false := by rw [← hbd, ← Bool.not_and, hok]; rfl
  clear hbd
  obtain ⟨va, vb⟩ := Bool.and_eq_true_iff.1 hok
  have hA := HAo.out hok
  have hS := HSo.out hok
  have hM := HMo.out hok
  obtain ⟨rfl, hG⟩ := HCo.out hok
  have okP := pls_ok a b va vb
  have okQ := pls_ok a (trn b) va (trn_vld b vb)
  have okR := tms_ok a b va vb
  have hpn : ∀ p, w.heap.size ≤ p → p ∉ kb :: (blk vL ++ blk vW) := fun p hp h => by have := HLt.out p (head_blks h); omega
  have HSS : ∀ D N u, Frn w0 X9 kb vL vW E D N u → ((u.cell? ⟨w.heap.size, 0, none⟩ = some (.bool a.neg) ∧ u.cell? ⟨w.heap.size, 1, none⟩ = some (.slice q1 a.mag.length d1)) ∧ u.cell? ⟨w.heap.size, 2, none⟩ = some (.int .i64 a.exp)) ∧ ((u.cell? ⟨w.heap.size + 1, 0, none⟩ = some (.bool b.neg) ∧ u.cell? ⟨w.heap.size + 1, 1, none⟩ = some (.slice q2 b.mag.length d2)) ∧ u.cell? ⟨w.heap.size + 1, 2, none⟩ = some (.int .i64 b.exp)) ∧ ((u.cell? ⟨pP, 0, none⟩ = some (.bool rp.neg) ∧ u.cell? ⟨pP, 1, none⟩ = some (.slice sP rp.mag.length tP)) ∧ u.cell? ⟨pP, 2, none⟩ = some (.int .i64 rp.exp)) ∧ ((u.cell? ⟨pQ, 0, none⟩ = some (.bool rq.neg) ∧ u.cell? ⟨pQ, 1, none⟩ = some (.slice sQ rq.mag.length tQ)) ∧ u.cell? ⟨pQ, 2, none⟩ = some (.int .i64 rq.exp)) ∧ ((u.cell? ⟨pR, 0, none⟩ = some (.bool rr.neg) ∧ u.cell? ⟨pR, 1, none⟩ = some (.slice sR rr.mag.length tR)) ∧ u.cell? ⟨pR, 2, none⟩ = some (.int .i64 rr.exp)) := fun D N u h => ⟨TA9.out.2 _ u (hpn _ (by omega)) h.grw, TB9.out.2 _ u (hpn _ (by omega)) h.grw, TP9.out.2 _ u (hpn _ (by omega)) h.grw, TQ9.out.2 _ u (hpn _ (by omega)) h.grw, TR9.out.2 _ u (hpn _ (by omega)) h.grw⟩
  have HS0 : Hid (∀ u, Frn w0 X9 kb vL vW E [] E.length u → ((u.cell? ⟨w.heap.size, 0, none⟩ = some (.bool a.neg) ∧ u.cell? ⟨w.heap.size, 1, none⟩ = some (.slice q1 a.mag.length d1)) ∧ u.cell? ⟨w.heap.size, 2, none⟩ = some (.int .i64 a.exp)) ∧ ((u.cell? ⟨w.heap.size + 1, 0, none⟩ = some (.bool b.neg) ∧ u.cell? ⟨w.heap.size + 1, 1, none⟩ = some (.slice q2 b.mag.length d2)) ∧ u.cell? ⟨w.heap.size + 1, 2, none⟩ = some (.int .i64 b.exp)) ∧ ((u.cell? ⟨pP, 0, none⟩ = some (.bool rp.neg) ∧ u.cell? ⟨pP, 1, none⟩ = some (.slice sP rp.mag.length tP)) ∧ u.cell? ⟨pP, 2, none⟩ = some (.int .i64 rp.exp)) ∧ ((u.cell? ⟨pQ, 0, none⟩ = some (.bool rq.neg) ∧ u.cell? ⟨pQ, 1, none⟩ = some (.slice sQ rq.mag.length tQ)) ∧ u.cell? ⟨pQ, 2, none⟩ = some (.int .i64 rq.exp)) ∧ ((u.cell? ⟨pR, 0, none⟩ = some (.bool rr.neg) ∧ u.cell? ⟨pR, 1, none⟩ = some (.slice sR rr.mag.length tR)) ∧ u.cell? ⟨pR, 2, none⟩ = some (.int .i64 rr.exp))) := fun u h => HSS _ _ u h
  have HON0 : Hid (∀ u u', Frn w0 X9 kb vL vW E [] E.length u → Kept u u' → Frn w0 X9 kb vL vW E [] E.length u') := fun u u' h k => h.on k
  have HS1 : Hid (∀ u, Frn w0 X9 kb vL vW E ([] ++ blk (.slice sP rp.mag.length tP)) (E.length + 1) u → ((u.cell? ⟨w.heap.size, 0, none⟩ = some (.bool a.neg) ∧ u.cell? ⟨w.heap.size, 1, none⟩ = some (.slice q1 a.mag.length d1)) ∧ u.cell? ⟨w.heap.size, 2, none⟩ = some (.int .i64 a.exp)) ∧ ((u.cell? ⟨w.heap.size + 1, 0, none⟩ = some (.bool b.neg) ∧ u.cell? ⟨w.heap.size + 1, 1, none⟩ = some (.slice q2 b.mag.length d2)) ∧ u.cell? ⟨w.heap.size + 1, 2, none⟩ = some (.int .i64 b.exp)) ∧ ((u.cell? ⟨pP, 0, none⟩ = some (.bool rp.neg) ∧ u.cell? ⟨pP, 1, none⟩ = some (.slice sP rp.mag.length tP)) ∧ u.cell? ⟨pP, 2, none⟩ = some (.int .i64 rp.exp)) ∧ ((u.cell? ⟨pQ, 0, none⟩ = some (.bool rq.neg) ∧ u.cell? ⟨pQ, 1, none⟩ = some (.slice sQ rq.mag.length tQ)) ∧ u.cell? ⟨pQ, 2, none⟩ = some (.int .i64 rq.exp)) ∧ ((u.cell? ⟨pR, 0, none⟩ = some (.bool rr.neg) ∧ u.cell? ⟨pR, 1, none⟩ = some (.slice sR rr.mag.length tR)) ∧ u.cell? ⟨pR, 2, none⟩ = some (.int .i64 rr.exp))) := fun u h => HSS _ _ u h
  have HON1 : Hid (∀ u u', Frn w0 X9 kb vL vW E ([] ++ blk (.slice sP rp.mag.length tP)) (E.length + 1) u → Kept u u' → Frn w0 X9 kb vL vW E ([] ++ blk (.slice sP rp.mag.length tP)) (E.length + 1) u') := fun u u' h k => h.on k
  have HS2 : Hid (∀ u, Frn w0 X9 kb vL vW E ([] ++ blk (.slice sP rp.mag.length tP) ++ blk (.slice sQ rq.mag.length tQ)) (E.length + 1 + 1) u → ((u.cell? ⟨w.heap.size, 0, none⟩ = some (.bool a.neg) ∧ u.cell? ⟨w.heap.size, 1, none⟩ = some (.slice q1 a.mag.length d1)) ∧ u.cell? ⟨w.heap.size, 2, none⟩ = some (.int .i64 a.exp)) ∧ ((u.cell? ⟨w.heap.size + 1, 0, none⟩ = some (.bool b.neg) ∧ u.cell? ⟨w.heap.size + 1, 1, none⟩ = some (.slice q2 b.mag.length d2)) ∧ u.cell? ⟨w.heap.size + 1, 2, none⟩ = some (.int .i64 b.exp)) ∧ ((u.cell? ⟨pP, 0, none⟩ = some (.bool rp.neg) ∧ u.cell? ⟨pP, 1, none⟩ = some (.slice sP rp.mag.length tP)) ∧ u.cell? ⟨pP, 2, none⟩ = some (.int .i64 rp.exp)) ∧ ((u.cell? ⟨pQ, 0, none⟩ = some (.bool rq.neg) ∧ u.cell? ⟨pQ, 1, none⟩ = some (.slice sQ rq.mag.length tQ)) ∧ u.cell? ⟨pQ, 2, none⟩ = some (.int .i64 rq.exp)) ∧ ((u.cell? ⟨pR, 0, none⟩ = some (.bool rr.neg) ∧ u.cell? ⟨pR, 1, none⟩ = some (.slice sR rr.mag.length tR)) ∧ u.cell? ⟨pR, 2, none⟩ = some (.int .i64 rr.exp))) := fun u h => HSS _ _ u h
  have HON2 : Hid (∀ u u', Frn w0 X9 kb vL vW E ([] ++ blk (.slice sP rp.mag.length tP) ++ blk (.slice sQ rq.mag.length tQ)) (E.length + 1 + 1) u → Kept u u' → Frn w0 X9 kb vL vW E ([] ++ blk (.slice sP rp.mag.length tP) ++ blk (.slice sQ rq.mag.length tQ)) (E.length + 1 + 1) u') := fun u u' h k => h.on k
  have HS3 : Hid (∀ u, Frn w0 X9 kb vL vW E ([] ++ blk (.slice sP rp.mag.length tP) ++ blk (.slice sQ rq.mag.length tQ) ++ blk (.slice sR rr.mag.length tR)) (E.length + 1 + 1 + 1) u → ((u.cell? ⟨w.heap.size, 0, none⟩ = some (.bool a.neg) ∧ u.cell? ⟨w.heap.size, 1, none⟩ = some (.slice q1 a.mag.length d1)) ∧ u.cell? ⟨w.heap.size, 2, none⟩ = some (.int .i64 a.exp)) ∧ ((u.cell? ⟨w.heap.size + 1, 0, none⟩ = some (.bool b.neg) ∧ u.cell? ⟨w.heap.size + 1, 1, none⟩ = some (.slice q2 b.mag.length d2)) ∧ u.cell? ⟨w.heap.size + 1, 2, none⟩ = some (.int .i64 b.exp)) ∧ ((u.cell? ⟨pP, 0, none⟩ = some (.bool rp.neg) ∧ u.cell? ⟨pP, 1, none⟩ = some (.slice sP rp.mag.length tP)) ∧ u.cell? ⟨pP, 2, none⟩ = some (.int .i64 rp.exp)) ∧ ((u.cell? ⟨pQ, 0, none⟩ = some (.bool rq.neg) ∧ u.cell? ⟨pQ, 1, none⟩ = some (.slice sQ rq.mag.length tQ)) ∧ u.cell? ⟨pQ, 2, none⟩ = some (.int .i64 rq.exp)) ∧ ((u.cell? ⟨pR, 0, none⟩ = some (.bool rr.neg) ∧ u.cell? ⟨pR, 1, none⟩ = some (.slice sR rr.mag.length tR)) ∧ u.cell? ⟨pR, 2, none⟩ = some (.int .i64 rr.exp))) := fun u h => HSS _ _ u h
  have HON3 : Hid (∀ u u', Frn w0 X9 kb vL vW E ([] ++ blk (.slice sP rp.mag.length tP) ++ blk (.slice sQ rq.mag.length tQ) ++ blk (.slice sR rr.mag.length tR)) (E.length + 1 + 1 + 1) u → Kept u u' → Frn w0 X9 kb vL vW E ([] ++ blk (.slice sP rp.mag.length tP) ++ blk (.slice sQ rq.mag.length tQ) ++ blk (.slice sR rr.mag.length tR)) (E.length + 1 + 1 + 1) u') := fun u u' h k => h.on k
  have KW0 : Hid (∀ u, Frn w0 X9 kb vL vW E [] E.length u → Calls Tryz.prog 36 #[.agg #[.bool a.neg, .slice q1 a.mag.length d1, .int .i64 a.exp], .agg #[.bool b.neg, .slice q2 b.mag.length d2, .int .i64 b.exp]] u fun e w' => (∃ v, e = .returned v ∧ RNp (fun c => c < w0.heap.size ∨ u.heap.size ≤ c) w' v (pls a b)) ∧ Kept u w') := fun u h => plus2_any _ u a b _ _ (HN1.out u h.kept) (HN2.out u h.kept) va vb
  have KW1 : Hid (∀ u, Frn w0 X9 kb vL vW E ([] ++ blk (.slice sP rp.mag.length tP)) (E.length + 1) u → Calls Tryz.prog 37 #[.agg #[.bool a.neg, .slice q1 a.mag.length d1, .int .i64 a.exp], .agg #[.bool b.neg, .slice q2 b.mag.length d2, .int .i64 b.exp]] u fun e w' => (∃ v, e = .returned v ∧ RNp (fun c => c < w0.heap.size ∨ u.heap.size ≤ c) w' v (pls a (trn b))) ∧ Kept u w') := fun u h => minus2_any _ u a b _ _ (HN1.out u h.kept) (HN2.out u h.kept) va vb
  have KW2 : Hid (∀ u, Frn w0 X9 kb vL vW E ([] ++ blk (.slice sP rp.mag.length tP) ++ blk (.slice sQ rq.mag.length tQ)) (E.length + 1 + 1) u → Calls Tryz.prog 38 #[.agg #[.bool a.neg, .slice q1 a.mag.length d1, .int .i64 a.exp], .agg #[.bool b.neg, .slice q2 b.mag.length d2, .int .i64 b.exp]] u fun e w' => (∃ v, e = .returned v ∧ RNp (fun c => c < w0.heap.size ∨ u.heap.size ≤ c) w' v (tms a b)) ∧ Kept u w') := fun u h => times2_any _ u a b _ _ (HN1.out u h.kept) (HN2.out u h.kept) va vb
  have KO : Hid (∀ u, Frn w0 X9 kb vL vW E ([] ++ blk (.slice sP rp.mag.length tP) ++ blk (.slice sQ rq.mag.length tQ) ++ blk (.slice sR rr.mag.length tR)) (E.length + 1 + 1 + 1) u → Calls Tryz.prog 39 #[.agg #[.bool a.neg, .slice q1 a.mag.length d1, .int .i64 a.exp], .agg #[.bool b.neg, .slice q2 b.mag.length d2, .int .i64 b.exp]] u fun e w' => e = .returned (.int .i64 sv) ∧ Kept u w') := fun u h => order2_any _ u a b _ _ (HN1.out u h.kept) (HN2.out u h.kept) va vb sv hG
  have KI0 : Hid (∀ u0 u v, Frn w0 X9 kb vL vW E [] E.length u0 → Kept u0 u → RNp (fun c => c < w0.heap.size ∨ u0.heap.size ≤ c) u v (pls a b) → Calls Tryz.prog 22 #[.pointer (some ⟨kb, 0, none⟩), .agg #[.bool rp.neg, .slice sP rp.mag.length tP, .int .i64 rp.exp], .int .i64 pe, .bool false, v] u fun e w' => e = .returned (.bool true) ∧ Frn w0 X9 kb vL vW E ([] ++ blk (.slice sP rp.mag.length tP)) (E.length + 1) w') := fun u0 u v h k hv => is_at w0 X9 kb vL vW E _ _ u0 u h k (by omega) rp pe sP tP RP9.out (fun b hb h => by have := HLt.out b h; have := BP.out b hb; omega) (fun b hb => by simp) (fun b hb => by have := BP.out b hb; omega) (pls a b) v hv okP.1 okP.2 hA
  have KI1 : Hid (∀ u0 u v, Frn w0 X9 kb vL vW E ([] ++ blk (.slice sP rp.mag.length tP)) (E.length + 1) u0 → Kept u0 u → RNp (fun c => c < w0.heap.size ∨ u0.heap.size ≤ c) u v (pls a (trn b)) → Calls Tryz.prog 22 #[.pointer (some ⟨kb, 0, none⟩), .agg #[.bool rq.neg, .slice sQ rq.mag.length tQ, .int .i64 rq.exp], .int .i64 qe, .bool false, v] u fun e w' => e = .returned (.bool true) ∧ Frn w0 X9 kb vL vW E ([] ++ blk (.slice sP rp.mag.length tP) ++ blk (.slice sQ rq.mag.length tQ)) (E.length + 1 + 1) w') := fun u0 u v h k hv => is_at w0 X9 kb vL vW E _ _ u0 u h k (by omega) rq qe sQ tQ RQ9.out (fun b hb h => by have := HLt.out b h; have := BQ.out b hb; omega) (fun b hb => fun h => by simp only [List.nil_append] at h; have := BP.out b h; have := BQ.out b hb; omega) (fun b hb => by have := BQ.out b hb; omega) (pls a (trn b)) v hv okQ.1 okQ.2 hS
  have KI2 : Hid (∀ u0 u v, Frn w0 X9 kb vL vW E ([] ++ blk (.slice sP rp.mag.length tP) ++ blk (.slice sQ rq.mag.length tQ)) (E.length + 1 + 1) u0 → Kept u0 u → RNp (fun c => c < w0.heap.size ∨ u0.heap.size ≤ c) u v (tms a b) → Calls Tryz.prog 22 #[.pointer (some ⟨kb, 0, none⟩), .agg #[.bool rr.neg, .slice sR rr.mag.length tR, .int .i64 rr.exp], .int .i64 re, .bool false, v] u fun e w' => e = .returned (.bool true) ∧ Frn w0 X9 kb vL vW E ([] ++ blk (.slice sP rp.mag.length tP) ++ blk (.slice sQ rq.mag.length tQ) ++ blk (.slice sR rr.mag.length tR)) (E.length + 1 + 1 + 1) w') := fun u0 u v h k hv => is_at w0 X9 kb vL vW E _ _ u0 u h k (by omega) rr re sR tR RR9.out (fun b hb h => by have := HLt.out b h; have := BR.out b hb; omega) (fun b hb => fun h => by simp only [List.nil_append] at h; rcases List.mem_append.1 h with h | h; (have := BP.out b h; have := BR.out b hb; omega); (have := BQ.out b h; have := BR.out b hb; omega)) (fun b hb => by have := BR.out b hb; omega) (tms a b) v hv okR.1 okR.2 hM
  have HFIN : Hid (∀ u, Frn w0 X9 kb vL vW E ([] ++ blk (.slice sP rp.mag.length tP) ++ blk (.slice sQ rq.mag.length tQ) ++ blk (.slice sR rr.mag.length tR)) (E.length + 1 + 1 + 1) u → ∃ vL' vW' E', KeepAt w0 u kb vL' vW' E' ∧ E'.length ≤ E.length + 3 ∧ GrwS (kb :: (blk vL ++ blk vW)) w u) := fun u h => by
   have hg := h.grw
   obtain ⟨vL', vW', E', h1, h0, -⟩ := h
   exact ⟨vL', vW', E', h1, by omega, GW9.trans hg⟩
  have f0 : Frn w0 X9 kb vL vW E [] E.length X9.drew := (Frn.start HK9.out).on ((Kept.refl X9).drew)
  have hss : (sv == sv) = true := by simp
  clear HAo HSo HMo HCo HAb HSb HMb HCb HN1 HN2 HL1 HL2 HT HLt TA9 TB9 Tx9 Ty9 TP9 TQ9 TR9 RP9 RQ9 RR9 HK9 ZP ZQ ZR BP BQ BR HSS hpn okP okQ okR hA hS hM hG K8 K9 GW8 GW9
  generalize hF0 : Frn w0 X9 kb vL vW E [] E.length = F0 at *
  generalize hF1 : Frn w0 X9 kb vL vW E ([] ++ blk (.slice sP rp.mag.length tP)) (E.length + 1) = F1 at *
  generalize hF2 : Frn w0 X9 kb vL vW E ([] ++ blk (.slice sP rp.mag.length tP) ++ blk (.slice sQ rq.mag.length tQ)) (E.length + 1 + 1) = F2 at *
  generalize hF3 : Frn w0 X9 kb vL vW E ([] ++ blk (.slice sP rp.mag.length tP) ++ blk (.slice sQ rq.mag.length tQ) ++ blk (.slice sR rr.mag.length tR)) (E.length + 1 + 1 + 1) = F3 at *
  clear hF0 hF1 hF2 hF3
  go_wp2_with fail
  refine wp_region_held_drew (S := fun u => ((u.cell? ⟨w.heap.size, 0, none⟩ = some (.bool a.neg) ∧ u.cell? ⟨w.heap.size, 1, none⟩ = some (.slice q1 a.mag.length d1)) ∧ u.cell? ⟨w.heap.size, 2, none⟩ = some (.int .i64 a.exp)) ∧ ((u.cell? ⟨w.heap.size + 1, 0, none⟩ = some (.bool b.neg) ∧ u.cell? ⟨w.heap.size + 1, 1, none⟩ = some (.slice q2 b.mag.length d2)) ∧ u.cell? ⟨w.heap.size + 1, 2, none⟩ = some (.int .i64 b.exp)) ∧ ((u.cell? ⟨pP, 0, none⟩ = some (.bool rp.neg) ∧ u.cell? ⟨pP, 1, none⟩ = some (.slice sP rp.mag.length tP)) ∧ u.cell? ⟨pP, 2, none⟩ = some (.int .i64 rp.exp)) ∧ ((u.cell? ⟨pQ, 0, none⟩ = some (.bool rq.neg) ∧ u.cell? ⟨pQ, 1, none⟩ = some (.slice sQ rq.mag.length tQ)) ∧ u.cell? ⟨pQ, 2, none⟩ = some (.int .i64 rq.exp)) ∧ ((u.cell? ⟨pR, 0, none⟩ = some (.bool rr.neg) ∧ u.cell? ⟨pR, 1, none⟩ = some (.slice sR rr.mag.length tR)) ∧ u.cell? ⟨pR, 2, none⟩ = some (.int .i64 rr.exp))) (by kernel_rfl) (HS0.out _ f0) (fun hHeld0 => ?_)
  refine tk (i := 0) (v := ?_) rfl ?_
  simp only [Act.put, zA, zB, zC, zD, zE, zF]
  refine tk (i := 1) (v := ?_) rfl ?_
  simp only [Act.put, zA, zB, zC, zD, zE, zF]
  refine tk (i := 2) (v := ?_) rfl ?_
  simp only [Act.put, zA, zB, zC, zD, zE, zF]
  refine tk (i := 3) (v := ?_) rfl ?_
  simp only [Act.put, zA, zB, zC, zD, zE, zF]
  refine tk (i := 4) (v := ?_) rfl ?_
  simp only [Act.put, zA, zB, zC, zD, zE, zF]
  refine wpAnyH_ready (rs := [5]) (by kernel_rfl) (by simp) ?_
  refine AllReadyH.cons rfl (fun K hK9 => ?_) AllReadyH.nil
  go_simp
  go_wp2_with fail
  refine (KW0.out _ f0).mono ?_
  rintro e y1 ⟨⟨v1, rfl, m1⟩, k1⟩
  have f1 := HON0.out _ _ f0 k1
  refine hK9.out _ _ (HS0.out _ f1) (fun hHeld1 => ?_)
  clear hK9 K
  refine wpAnyH_ready (rs := [6]) (by kernel_rfl) (by simp) ?_
  refine AllReadyH.cons rfl (fun K hK9 => ?_) AllReadyH.nil
  go_simp
  go_wp2_with fail
  refine (KI0.out _ _ _ f0 k1 m1).mono ?_
  rintro e y2 ⟨rfl, f2⟩
  refine hK9.out _ _ (HS1.out _ f2) (fun hHeld2 => ?_)
  clear hK9 K
  refine tk (i := 7) (v := ?_) rfl ?_
  simp only [Act.put, zA, zB, zC, zD, zE, zF]
  refine tk (i := 8) (v := ?_) rfl ?_
  simp only [Act.put, zA, zB, zC, zD, zE, zF]
  refine tk (i := 9) (v := ?_) rfl ?_
  simp only [Act.put, zA, zB, zC, zD, zE, zF]
  refine tk (i := 10) (v := ?_) rfl ?_
  simp only [Act.put, zA, zB, zC, zD, zE, zF]
  refine tk (i := 11) (v := ?_) rfl ?_
  simp only [Act.put, zA, zB, zC, zD, zE, zF]
  refine tk (i := 12) (v := ?_) rfl ?_
  simp only [Act.put, zA, zB, zC, zD, zE, zF]
  refine wpAnyH_ready (rs := [13]) (by kernel_rfl) (by simp) ?_
  refine AllReadyH.cons rfl (fun K hK9 => ?_) AllReadyH.nil
  go_simp
  go_wp2_with fail
  refine (KW1.out _ f2).mono ?_
  rintro e y3 ⟨⟨v2, rfl, m2⟩, k3⟩
  have f3 := HON1.out _ _ f2 k3
  refine hK9.out _ _ (HS1.out _ f3) (fun hHeld3 => ?_)
  clear hK9 K
  refine wpAnyH_ready (rs := [14]) (by kernel_rfl) (by simp) ?_
  refine AllReadyH.cons rfl (fun K hK9 => ?_) AllReadyH.nil
  go_simp
  go_wp2_with fail
  refine (KI1.out _ _ _ f2 k3 m2).mono ?_
  rintro e y4 ⟨rfl, f4⟩
  refine hK9.out _ _ (HS2.out _ f4) (fun hHeld4 => ?_)
  clear hK9 K
  refine tk (i := 15) (v := ?_) rfl ?_
  simp only [Act.put, zA, zB, zC, zD, zE, zF]
  refine tk (i := 16) (v := ?_) rfl ?_
  simp only [Act.put, zA, zB, zC, zD, zE, zF]
  refine tk (i := 17) (v := ?_) rfl ?_
  simp only [Act.put, zA, zB, zC, zD, zE, zF]
  refine tk (i := 18) (v := ?_) rfl ?_
  simp only [Act.put, zA, zB, zC, zD, zE, zF]
  refine tk (i := 19) (v := ?_) rfl ?_
  simp only [Act.put, zA, zB, zC, zD, zE, zF]
  refine tk (i := 20) (v := ?_) rfl ?_
  simp only [Act.put, zA, zB, zC, zD, zE, zF]
  refine tk (i := 21) (v := ?_) rfl ?_
  simp only [Act.put, zA, zB, zC, zD, zE, zF]
  refine wpAnyH_ready (rs := [22]) (by kernel_rfl) (by simp) ?_
  refine AllReadyH.cons rfl (fun K hK9 => ?_) AllReadyH.nil
  go_simp
  go_wp2_with fail
  refine (KW2.out _ f4).mono ?_
  rintro e y5 ⟨⟨v3, rfl, m3⟩, k5⟩
  have f5 := HON2.out _ _ f4 k5
  refine hK9.out _ _ (HS2.out _ f5) (fun hHeld5 => ?_)
  clear hK9 K
  refine wpAnyH_ready (rs := [23]) (by kernel_rfl) (by simp) ?_
  refine AllReadyH.cons rfl (fun K hK9 => ?_) AllReadyH.nil
  go_simp
  go_wp2_with fail
  refine (KI2.out _ _ _ f4 k5 m3).mono ?_
  rintro e y6 ⟨rfl, f6⟩
  refine hK9.out _ _ (HS3.out _ f6) (fun hHeld6 => ?_)
  clear hK9 K
  refine tk (i := 24) (v := ?_) rfl ?_
  simp only [Act.put, zA, zB, zC, zD, zE, zF]
  refine tk (i := 25) (v := ?_) rfl ?_
  simp only [Act.put, zA, zB, zC, zD, zE, zF]
  refine tk (i := 26) (v := ?_) rfl ?_
  simp only [Act.put, zA, zB, zC, zD, zE, zF]
  refine tk (i := 27) (v := ?_) rfl ?_
  simp only [Act.put, zA, zB, zC, zD, zE, zF]
  refine tk (i := 28) (v := ?_) rfl ?_
  simp only [Act.put, zA, zB, zC, zD, zE, zF]
  refine tk (i := 29) (v := ?_) rfl ?_
  simp only [Act.put, zA, zB, zC, zD, zE, zF]
  refine tk (i := 30) (v := ?_) rfl ?_
  simp only [Act.put, zA, zB, zC, zD, zE, zF]
  refine tk (i := 31) (v := ?_) rfl ?_
  simp only [Act.put, zA, zB, zC, zD, zE, zF]
  refine tk (i := 32) (v := ?_) rfl ?_
  simp only [Act.put, zA, zB, zC, zD, zE, zF]
  refine wpAnyH_ready (rs := [33]) (by kernel_rfl) (by simp) ?_
  refine AllReadyH.cons rfl (fun K hK9 => ?_) AllReadyH.nil
  go_simp
  go_wp2_with fail
  refine (KO.out _ f6).mono ?_
  rintro e y7 ⟨rfl, k7⟩
  have f7 := HON3.out _ _ f6 k7
  refine hK9.out _ _ (HS3.out _ f7) (fun hHeld7 => ?_)
  clear hK9 K
  refine tk (i := 34) (v := ?_) rfl ?_
  simp only [Act.put, zA, zB, zC, zD, zE, zF]
  refine tk (i := 35) (v := ?_) rfl ?_
  simp only [Act.put, zA, zB, zC, zD, zE, zF]
  refine tk (i := 36) (v := ?_) rfl ?_
  simp only [Act.put, zA, zB, zC, zD, zE, zF]
  refine wpAnyH_done (by kernel_rfl) ?_ _
  go_wp2_with fail
  go_ret
  exact ⟨rfl, HFIN.out _ f7⟩
theorem keep_none2 (w u : World) (kb : Nat) (k : Kept w u) (hk : w.heap.size ≤ kb) (hc : u.heap[kb]? = some (.cells #[.slice none 0 0, .slice none 0 0] 26 (0, 0))) : KeepAt w u kb (.slice none 0 0) (.slice none 0 0) [] :=
 ⟨k, hc, .inl ⟨rfl, rfl⟩, .inl ⟨rfl, rfl⟩, fun x hx => (by cases hx), by simp [blks, blk], fun b hb => by
  obtain rfl : b = kb := by simpa [blks, blk] using hb
  exact hk⟩
end Go.Proofs.YtbffekcjdcihpaaGreatDoor
