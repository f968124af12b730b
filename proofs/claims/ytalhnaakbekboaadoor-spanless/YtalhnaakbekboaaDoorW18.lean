/- exact's Columns: the closure. exact's Columns. -/
import Derived.Test.YtalhnaakbekboaaDoorW17
import Derived.Test.YtalhnaakbekboaaDoorW15
namespace Go.Proofs.YtalhnaakbekboaaDoor
open Go.ChangeShapes Go.WideShapes Go.ChangeAt Go.RowKit
set_option linter.unusedVariables false
set_option linter.unusedSimpArgs false

theorem Own.setCells {g cap : Nat} : ∀ (vs A B : List Int) (w : World), Own w g cap (A ++ B) → vs.length ≤ B.length → Own (w.setCells g A.length (vs.map (Value.int .i64))) g cap (A ++ vs ++ B.drop vs.length)
  | [], A, B, w, h, _ => by simpa [World.setCells] using h
  | v :: r, A, [], w, h, hl => by simp at hl
  | v :: r, A, b :: B, w, h, hl => by
    have h1 := h.set A.length v
    have e : (A ++ b :: B).set A.length v = (A ++ [v]) ++ B := by simp
    rw [e] at h1
    have := Own.setCells r (A ++ [v]) B _ h1 (by simpa using hl)
    simpa [World.setCells] using this
theorem cv_near : ∀ (C : List Int), (∀ j, -9223372036854775807 ≤ C.getD j 0 ∧ C.getD j 0 ≤ 9223372036854775807) → -(2 : Int) ^ 34 * ((2 : Int) ^ (30 * C.length) - 1) ≤ cv C ∧ cv C ≤ (2 : Int) ^ 34 * ((2 : Int) ^ (30 * C.length) - 1)
  | [], _ => by simp [cv]
  | c :: r, h => by
    have h0 := h 0
    have ih := cv_near r (fun j => by simpa using h (j + 1))
    simp only [List.getD_cons_zero] at h0
    rw [List.length_cons, Nat.mul_add, Int.pow_add, cv]
    obtain ⟨P, hP⟩ : ∃ P, P = (2 : Int) ^ (30 * r.length) := ⟨_, rfl⟩
    rw [← hP] at ih ⊢
    generalize cv r = s at *
    omega
theorem cv_noughts : ∀ C : List Int, cv (C ++ [0, 0]) = cv C
  | [] => by simp [cv]
  | c :: r => by rw [List.cons_append, cv, cv, cv_noughts r]
set_option maxHeartbeats 2000000 in
set_option maxRecDepth 100000 in
theorem columns1 (w : World) (hT : Tab w) (q1 q2 b o cap : Nat) (h1 : q1 < w.heap.size) (h2 : q2 < w.heap.size) (hb : b < w.heap.size) (C : List Int) (hl : C.length ≤ 141) (hC : ∀ j, -9223372036854775807 ≤ C.getD j 0 ∧ C.getD j 0 ≤ 9223372036854775807) (x : Int) (c1 : w.cell? ⟨q1, 0, none⟩ = some (.slice (some ⟨b, o, none⟩) C.length cap)) (c2 : w.cell? ⟨q2, 0, none⟩ = some (.int .i64 x)) (hr : ∀ j, j < C.length → w.cell? ⟨b, o + j, none⟩ = some (.int .i64 (C.getD j 0))) (r : Nm) (hRes : frm (decide (cv C < 0)) (cv C).natAbs x = some r) :
    Calls Tryd.prog 101 #[.pointer (some ⟨q1, 0, none⟩), .pointer (some ⟨q2, 0, none⟩)] w fun e w' => (∃ v, e = .returned v ∧ New w w' v r) ∧ Kept w w' := by
  have hK : Kept w (numW w) := (Kept.refl w).alloc _ _
  have q : IntKind.i64.wrap ((C.length : Int) + 2) = (C.length : Int) + 2 := by rw [wrap_i64]; omega
  have hmk : ∀ u, (Instr.makeSlice 24 (.int .i64 ((C.length : Int) + 2)) (.int .i64 ((C.length : Int) + 2))).run Tryd.prog u = .ok (.slice (some ⟨u.heap.size, 0, none⟩) (C.length + 2) (C.length + 2)) (u.alloc (.cells (madeCells #[.int .i64 0] (C.length + 2)) 3)) := make_run (C.length + 2) (by omega)
  have e1 := (hK.below.cell (p := ⟨q1, 0, none⟩) h1).trans c1
  have e2 := (hK.below.cell (p := ⟨q2, 0, none⟩) h2).trans c2
  have hO := own_made (C.length + 2) (by omega) (numW w)
  have hK2 : Kept (numW w) ((numW w).alloc (.cells (madeCells #[.int .i64 0] (C.length + 2)) 3)) := (Kept.refl _).alloc _ _
  have hK3 : Kept (numW w) (((numW w).alloc (.cells (madeCells #[.int .i64 0] (C.length + 2)) 3)).setCells (w.heap.size + 1) 0 (C.map (Value.int .i64))) :=
    hK2.grw (g := w.heap.size + 1) (by simp) (Grw.setCells _ ((Kept.refl _).toGrw _) 0)
  have hO2 : Own (((numW w).alloc (.cells (madeCells #[.int .i64 0] (C.length + 2)) 3)).setCells (w.heap.size + 1) 0 (C.map (Value.int .i64))) (w.heap.size + 1) (C.length + 2) (C ++ [0, 0]) := by
    have := Own.setCells C [] (List.replicate (C.length + 2) 0) _ (by simpa using hO) (by simp)
    have e : (List.replicate (C.length + 2) (0 : Int)).drop C.length = [0, 0] := by rw [List.drop_replicate, Nat.add_sub_cancel_left]; rfl
    rw [e] at this
    simpa using this
  have hcp : (Builtin.copy_ #[24, 24] 3 #[.slice (some ⟨w.heap.size + 1, 0, none⟩) (C.length + 2) (C.length + 2), .slice (some ⟨b, o, none⟩) C.length cap]).run Tryd.prog ((numW w).alloc (.cells (madeCells #[.int .i64 0] (C.length + 2)) 3)) = .ok (goInt C.length) (((numW w).alloc (.cells (madeCells #[.int .i64 0] (C.length + 2)) 3)).setCells (w.heap.size + 1) 0 (C.map (Value.int .i64))) := by
    have := run_copy_cells (P := Tryd.prog) ((numW w).alloc (.cells (madeCells #[.int .i64 0] (C.length + 2)) 3)) 24 24 3 3 (w.heap.size + 1) 0 (C.length + 2) (C.length + 2) ⟨b, o, none⟩ C.length cap (C.map (Value.int .i64)) li_under (by kernel_rfl) (by simp) (fun j v hv => ?_) (fun j hj => ?_) (fun j hj => ?_) (by simp [Value.oneCell'])
    · simpa using this
    · rw [List.getElem?_map] at hv
      obtain ⟨c, hc, rfl⟩ := Option.map_eq_some_iff.mp hv
      have hj : j < C.length := by
        rcases Nat.lt_or_ge j C.length with h | h
        · exact h
        · rw [List.getElem?_eq_none h] at hc; exact absurd hc (by simp)
      have := (hK.trans hK2).below.cell (p := ⟨b, o + j, none⟩) hb
      have ea : (⟨b, o, none⟩ : Addr).add j = ⟨b, o + j, none⟩ := by simp [Addr.add]
      rw [ea]
      refine (this.trans (hr j hj)).trans ?_
      rw [List.getD_eq_getElem?_getD, hc]; rfl
    · have := hO.cell j (by simp at hj ⊢; omega)
      simp only [Nat.zero_add]
      have e : (numW w).heap.size = w.heap.size + 1 := by simp
      rw [e] at this
      rw [this]; rfl
    · have e : (numW w).heap.size = w.heap.size + 1 := by simp
      rw [e] at hO
      exact hO.free _
  have KS : Hid (Calls Tryd.prog 58 #[.slice (some ⟨w.heap.size + 1, 0, none⟩) (C.length + 2) (C.length + 2), .int .i64 x] (((numW w).alloc (.cells (madeCells #[.int .i64 0] (C.length + 2)) 3)).setCells (w.heap.size + 1) 0 (C.map (Value.int .i64))) fun e w' => ToldR (some r) (numW w) w' e ∧ Kept (numW w) w') := by
    have hn := cv_near C hC
    have e : cv (C ++ [0, 0]) = cv C := cv_noughts C
    have hP : (2 : Int) ^ (30 * (C.length + 2)) = (2 : Int) ^ (30 * C.length) * 2 ^ 60 := by rw [Nat.mul_add, Int.pow_add]
    have hp : 0 < (2 : Int) ^ (30 * C.length) := Int.pow_pos (by decide)
    refine settled_any _ (C.length + 2) (C.length + 2) (w.heap.size + 1) x (C ++ [0, 0]) (by simp) (by omega) (fun j => ?_) (cv C) e (by rw [hP]; omega) (by rw [hP]; omega) (numW w) (hT.kept hK) hK3 (by simp) hO2 (some r) hRes
    rw [List.getD_eq_getElem?_getD, List.getElem?_append]
    split
    · have := hC j
      rwa [List.getD_eq_getElem?_getD] at this
    · generalize j - C.length = i
      rcases i with _ | _ | i <;> simp
  clear c1 c2 hO hO2 hr
  have hs := hK3.below.size
  go_enter Tryd.func101, Tryd.ntmps101
  have ez := (hK3.below.cell (p := ⟨q2, 0, none⟩) (by simp; omega)).trans e2
  obtain ⟨X, hX⟩ : ∃ X, X = (((numW w).alloc (.cells (madeCells #[.int .i64 0] (C.length + 2)) 3)).setCells (w.heap.size + 1) 0 (C.map (Value.int .i64))) := ⟨_, rfl⟩
  rw [← hX] at hcp KS hK3 ez hs
  clear hX
  go_wp2_with (first | (go_at_call 58; refine KS.out.mono ?_; rintro e w1 ⟨⟨v, rfl, hN⟩, hk1⟩; obtain ⟨vn, va, vl, vc, vx, rfl⟩ := hN.shape; obtain ⟨f0, f1, f2, f3⟩ := num_cells hk1))
  have := num_done hN hk1 (.bool vn) (.slice va vl vc) (.int .i64 vx)
  exact bodyPost_ret (v := .agg #[.bool vn, .slice va vl vc, .int .i64 vx]) (by simp [results, Tryd.results101, go_sem, f0, f1, f2]) rfl ⟨⟨_, rfl, this.1⟩, this.2⟩
end Go.Proofs.YtalhnaakbekboaaDoor

namespace Go.Proofs.YtalhnaakbekboaaDoor
open Go.ChangeShapes Go.WideShapes Go.ChangeAt Go.RowKit
set_option linter.unusedVariables false
set_option linter.unusedSimpArgs false

abbrev colW (w : World) (sv : Value) (x : Int) : World := ((w.alloc (.cells #[sv] 24)).alloc (.cells #[.int .i64 x] 3)).alloc nilNum
theorem colW_kept (w : World) (sv : Value) (x : Int) : Kept w (colW w sv x) := (((Kept.refl w).alloc _ _).alloc _ _).alloc _ _
set_option maxHeartbeats 1000000 in
set_option maxRecDepth 100000 in
theorem columns_ok (w : World) (hT : Tab w) (b o cap : Nat) (hb : b < w.heap.size) (C : List Int) (hl : C.length ≤ 141) (hC : ∀ j, -9223372036854775807 ≤ C.getD j 0 ∧ C.getD j 0 ≤ 9223372036854775807) (x : Int) (hr : ∀ j, j < C.length → w.cell? ⟨b, o + j, none⟩ = some (.int .i64 (C.getD j 0))) (r : Nm) (hRes : frm (decide (cv C < 0)) (cv C).natAbs x = some r) :
    Calls Tryd.prog 84 #[.slice (some ⟨b, o, none⟩) C.length cap, .int .i64 x] w fun e w' => ∃ v, e = .returned (.tuple #[v, .int .i64 0]) ∧ New w w' v r ∧ Kept w w' := by
  have hW := colW_kept w (.slice (some ⟨b, o, none⟩) C.length cap) x
  have KT : Hid (Calls Tryd.prog 25 #[.func (.func 101) #[] #[.pointer (some ⟨w.heap.size, 0, none⟩), .pointer (some ⟨w.heap.size + 1, 0, none⟩)], .slice none 0 0] (colW w (.slice (some ⟨b, o, none⟩) C.length cap) x) fun e w' => ∃ v, e = .returned (.tuple #[v, .int .i64 0]) ∧ New (colW w (.slice (some ⟨b, o, none⟩) C.length cap) x) w' v r ∧ Kept (colW w (.slice (some ⟨b, o, none⟩) C.length cap) x) w') := by
    refine told_ok 101 _ (fun w => call_of Tryd.func101 (by kernel_rfl) (by kernel_rfl) _ w) _ r _ (fun u k => allValid_0 u) (fun u k => ?_)
    have hs := k.below.size
    simp only [colW, World.size_alloc] at hs
    exact columns1 u ((hT.kept hW).kept k) _ _ b o cap (by omega) (by omega) (by omega) C hl hC x ((k.below.cell (p := ⟨w.heap.size, 0, none⟩) (by simp <;> omega)).trans (by simp [go_sem])) ((k.below.cell (p := ⟨w.heap.size + 1, 0, none⟩) (by simp <;> omega)).trans (by simp [go_sem])) (fun j hj => ((hW.trans k).below.cell (p := ⟨b, o + j, none⟩) hb).trans (hr j hj)) r hRes
  have hmf : ∀ (fn : Fn) (first cap : Array Value) (w : World), (Instr.makeFunc fn first cap).run Tryd.prog w = .ok (.func fn first cap) w := fun _ _ _ _ => rfl
  clear hr hT hRes hC hl
  generalize C.length = n at *
  go_enter Tryd.func84, Tryd.ntmps84
  go_wp2_with (first | (go_at_call 25; refine KT.out.mono ?_; rintro e w1 ⟨v, rfl, hN, hk1⟩; obtain ⟨vn, va, vl, vc, vx, rfl⟩ := hN.shape; obtain ⟨f0, f1, f2, f3⟩ := res_cells (w.heap.size + 2) (by simp) hk1 (by simp [go_sem]) (by simp [go_sem]) (by simp [go_sem]) (fun o => by simp [go_sem])))
  have := res_done (w.heap.size + 2) (by omega) (by simp) hW hN hk1 (.bool vn) (.slice va vl vc) (.int .i64 vx)
  refine bodyPost_ret (v := .tuple #[.agg #[.bool vn, .slice va vl vc, .int .i64 vx], .int .i64 0]) (by simp [results, Tryd.results84, go_sem, f0, f1, f2]) rfl ⟨_, rfl, this.1, this.2⟩
end Go.Proofs.YtalhnaakbekboaaDoor
