/- exact's Columns: the closure. exact's Columns. acc's told. -/
import Derived.Test.YtpkeadfndgddlaaDoorZl18
import Derived.Test.YtpkeadfndgddlaaDoorZl12
namespace Go.Proofs.YtpkeadfndgddlaaDoor
open Go.ChangeShapes Go.WideShapes Go.ChangeAt Go.RowKit
set_option linter.unusedVariables false
set_option linter.unusedSimpArgs false
set_option maxHeartbeats 16000000
set_option maxRecDepth 100000
theorem Own.setCells {g cap : Nat} : ∀ (vs A B : List Int) (w : World), Own w g cap (A ++ B) → vs.length ≤ B.length → Own (w.setCells g A.length (vs.map (Value.int .i64))) g cap (A ++ vs ++ B.drop vs.length)
 | [], A, B, w, h, _ => by simpa [World.setCells] using h
 | v :: r, A, [], w, h, hl => by simp at hl
 | v :: r, A, b :: B, w, h, hl => by
  have h1 := h.set A.length v
  have e : (A ++ b :: B).set A.length v = (A ++ [v]) ++ B := by simp
  rw [e] at h1
  have := Own.setCells r (A ++ [v]) B _ h1 (by simpa using hl)
  simpa [World.setCells] using this
theorem cv_near : ∀ (C : List Int), (∀ j, -9223372036854775807 ≤ C.getD j 0 ∧ C.getD j 0 ≤ 9223372036854775807) → -(2 : Int) ^ 34 * ((2 : Int) ^ (30 * C.length) - 1) ≤ cv C ∧ cv C ≤ (2 : Int) ^ 34 * ((2 : Int) ^ (30 * C.length) - 1)
 | [], _ => by simp [cv]
 | c :: r, h => by
  have h0 := h 0
  have ih := cv_near r (fun j => by simpa using h (j + 1))
  simp only [List.getD_cons_zero] at h0
  rw [List.length_cons, Nat.mul_add, Int.pow_add, cv]
  obtain ⟨P, hP⟩ : ∃ P, P = (2 : Int) ^ (30 * r.length) := ⟨_, rfl⟩
  rw [← hP] at ih ⊢
  generalize cv r = s at *
  omega
theorem cv_noughts : ∀ C : List Int, cv (C ++ [0, 0]) = cv C
 | [] => by simp [cv]
 | c :: r => by rw [List.cons_append, cv, cv, cv_noughts r]
theorem columns1 (w : World) (hT : Tab w) (q1 q2 b o cap : Nat) (h1 : q1 < w.heap.size) (h2 : q2 < w.heap.size) (hb : b < w.heap.size) (C : List Int) (hl : C.length ≤ 141) (hC : ∀ j, -9223372036854775807 ≤ C.getD j 0 ∧ C.getD j 0 ≤ 9223372036854775807) (x : Int) (c1 : w.cell? ⟨q1, 0, none⟩ = some (.slice (some ⟨b, o, none⟩) C.length cap)) (c2 : w.cell? ⟨q2, 0, none⟩ = some (.int .i64 x)) (hr : ∀ j, j < C.length → w.cell? ⟨b, o + j, none⟩ = some (.int .i64 (C.getD j 0))) (r : Nm) (hRes : frm (decide (cv C < 0)) (cv C).natAbs x = some r) :
  Calls Tryd.prog 67 #[.pointer (some ⟨q1, 0, none⟩), .pointer (some ⟨q2, 0, none⟩)] w fun e w' => (∃ v, e = .returned v ∧ New w w' v r) ∧ Kept w w' := by
 have hK : Kept w (numW w) := (Kept.refl w).alloc _ _
 have q : IntKind.i64.wrap ((C.length : Int) + 2) = (C.length : Int) + 2 := by rw [wrap_i64]; omega
 have hmk : ∀ u, (Instr.makeSlice 23 (.int .i64 ((C.length : Int) + 2)) (.int .i64 ((C.length : Int) + 2))).run Tryd.prog u = .ok (.slice (some ⟨u.heap.size, 0, none⟩) (C.length + 2) (C.length + 2)) (u.alloc (.cells (madeCells #[.int .i64 0] (C.length + 2)) 3)) := make_run (C.length + 2) (by omega)
 have e1 := (hK.below.cell (p := ⟨q1, 0, none⟩) h1).trans c1
 have e2 := (hK.below.cell (p := ⟨q2, 0, none⟩) h2).trans c2
 have hO := own_made (C.length + 2) (by omega) (numW w)
 have hK2 : Kept (numW w) ((numW w).alloc (.cells (madeCells #[.int .i64 0] (C.length + 2)) 3)) := (Kept.refl _).alloc _ _
 have hK3 : Kept (numW w) (((numW w).alloc (.cells (madeCells #[.int .i64 0] (C.length + 2)) 3)).setCells (w.heap.size + 1) 0 (C.map (Value.int .i64))) :=
  hK2.grw (g := w.heap.size + 1) (by simp) (Grw.setCells _ ((Kept.refl _).toGrw _) 0)
 have hO2 : Own (((numW w).alloc (.cells (madeCells #[.int .i64 0] (C.length + 2)) 3)).setCells (w.heap.size + 1) 0 (C.map (Value.int .i64))) (w.heap.size + 1) (C.length + 2) (C ++ [0, 0]) := by
  have := Own.setCells C [] (List.replicate (C.length + 2) 0) _ (by simpa using hO) (by simp)
  have e : (List.replicate (C.length + 2) (0 : Int)).drop C.length = [0, 0] := by rw [List.drop_replicate, Nat.add_sub_cancel_left]; rfl
  rw [e] at this
  simpa using this
 have hcp : (Builtin.copy_ #[23, 23] 3 #[.slice (some ⟨w.heap.size + 1, 0, none⟩) (C.length + 2) (C.length + 2), .slice (some ⟨b, o, none⟩) C.length cap]).run Tryd.prog ((numW w).alloc (.cells (madeCells #[.int .i64 0] (C.length + 2)) 3)) = .ok (goInt C.length) (((numW w).alloc (.cells (madeCells #[.int .i64 0] (C.length + 2)) 3)).setCells (w.heap.size + 1) 0 (C.map (Value.int .i64))) := by
  have := run_copy_cells (P := Tryd.prog) ((numW w).alloc (.cells (madeCells #[.int .i64 0] (C.length + 2)) 3)) 23 23 3 3 (w.heap.size + 1) 0 (C.length + 2) (C.length + 2) ⟨b, o, none⟩ C.length cap (C.map (Value.int .i64)) li_under (by kernel_rfl) (by simp) (fun j v hv => ?_) (fun j hj => ?_) (fun j hj => ?_) (by simp [Value.oneCell'])
  ·simpa using this
  ·rw [List.getElem?_map] at hv
   obtain ⟨c, hc, rfl⟩ := Option.map_eq_some_iff.mp hv
   have hj : j < C.length := by
    rcases Nat.lt_or_ge j C.length with h | h
    ·exact h
    ·rw [List.getElem?_eq_none h] at hc; exact absurd hc (by simp)
   have := (hK.trans hK2).below.cell (p := ⟨b, o + j, none⟩) hb
   have ea : (⟨b, o, none⟩ : Addr).add j = ⟨b, o + j, none⟩ := by simp [Addr.add]
   rw [ea]
   refine (this.trans (hr j hj)).trans ?_
   rw [List.getD_eq_getElem?_getD, hc]; rfl
  ·have := hO.cell j (by simp at hj ⊢; omega)
   simp only [Nat.zero_add]
   have e : (numW w).heap.size = w.heap.size + 1 := by simp
   rw [e] at this
   rw [this]; rfl
  ·have e : (numW w).heap.size = w.heap.size + 1 := by simp
   rw [e] at hO
   exact hO.free _
 have KS : Hid (Calls Tryd.prog 68 #[.slice (some ⟨w.heap.size + 1, 0, none⟩) (C.length + 2) (C.length + 2), .int .i64 x] (((numW w).alloc (.cells (madeCells #[.int .i64 0] (C.length + 2)) 3)).setCells (w.heap.size + 1) 0 (C.map (Value.int .i64))) fun e w' => ToldR (some r) (numW w) w' e ∧ Kept (numW w) w') := by
  have hn := cv_near C hC
  have e : cv (C ++ [0, 0]) = cv C := cv_noughts C
  have hP : (2 : Int) ^ (30 * (C.length + 2)) = (2 : Int) ^ (30 * C.length) * 2 ^ 60 := by rw [Nat.mul_add, Int.pow_add]
  have hp : 0 < (2 : Int) ^ (30 * C.length) := Int.pow_pos (by decide)
  refine settled_any _ (C.length + 2) (C.length + 2) (w.heap.size + 1) x (C ++ [0, 0]) (by simp) (by omega) (fun j => ?_) (cv C) e (by rw [hP]; omega) (by rw [hP]; omega) (numW w) (hT.kept hK) hK3 (by simp) hO2 (some r) hRes
  rw [List.getD_eq_getElem?_getD, List.getElem?_append]
  split
  ·have := hC j
   rwa [List.getD_eq_getElem?_getD] at this
  ·generalize j - C.length = i
   rcases i with _ | _ | i <;> simp
 clear c1 c2 hO hO2 hr
 have hs := hK3.below.size
 go_enter Tryd.func67, Tryd.ntmps67
 have ez := (hK3.below.cell (p := ⟨q2, 0, none⟩) (by simp; omega)).trans e2
 obtain ⟨X, hX⟩ : ∃ X, X = (((numW w).alloc (.cells (madeCells #[.int .i64 0] (C.length + 2)) 3)).setCells (w.heap.size + 1) 0 (C.map (Value.int .i64))) := ⟨_, rfl⟩
 rw [← hX] at hcp KS hK3 ez hs
 clear hX
 go_wp2_with (first | (go_at_call 68; refine KS.out.mono ?_; rintro e w1 ⟨⟨v, rfl, hN⟩, hk1⟩; obtain ⟨vn, va, vl, vc, vx, rfl⟩ := hN.shape; obtain ⟨f0, f1, f2, f3⟩ := num_cells hk1))
 have := num_done hN hk1 (.bool vn) (.slice va vl vc) (.int .i64 vx)
 exact bodyPost_ret (v := .agg #[.bool vn, .slice va vl vc, .int .i64 vx]) (by simp [results, Tryd.results67, go_sem, f0, f1, f2]) rfl ⟨⟨_, rfl, this.1⟩, this.2⟩
abbrev colW (w : World) (sv : Value) (x : Int) : World := ((w.alloc (.cells #[sv] 23)).alloc (.cells #[.int .i64 x] 3)).alloc nilNum
theorem colW_kept (w : World) (sv : Value) (x : Int) : Kept w (colW w sv x) := (((Kept.refl w).alloc _ _).alloc _ _).alloc _ _
theorem columns_ok (w : World) (hT : Tab w) (b o cap : Nat) (hb : b < w.heap.size) (C : List Int) (hl : C.length ≤ 141) (hC : ∀ j, -9223372036854775807 ≤ C.getD j 0 ∧ C.getD j 0 ≤ 9223372036854775807) (x : Int) (hr : ∀ j, j < C.length → w.cell? ⟨b, o + j, none⟩ = some (.int .i64 (C.getD j 0))) (r : Nm) (hRes : frm (decide (cv C < 0)) (cv C).natAbs x = some r) :
  Calls Tryd.prog 43 #[.slice (some ⟨b, o, none⟩) C.length cap, .int .i64 x] w fun e w' => ∃ v, e = .returned (.tuple #[v, .int .i64 0]) ∧ New w w' v r ∧ Kept w w' := by
 have hW := colW_kept w (.slice (some ⟨b, o, none⟩) C.length cap) x
 have KT : Hid (Calls Tryd.prog 66 #[.func (.func 67) #[] #[.pointer (some ⟨w.heap.size, 0, none⟩), .pointer (some ⟨w.heap.size + 1, 0, none⟩)], .slice none 0 0] (colW w (.slice (some ⟨b, o, none⟩) C.length cap) x) fun e w' => ∃ v, e = .returned (.tuple #[v, .int .i64 0]) ∧ New (colW w (.slice (some ⟨b, o, none⟩) C.length cap) x) w' v r ∧ Kept (colW w (.slice (some ⟨b, o, none⟩) C.length cap) x) w') := by
  refine told_ok 67 _ (fun w => call_of Tryd.func67 (by kernel_rfl) (by kernel_rfl) _ w) _ r _ (fun u k => allValid_0 u) (fun u k => ?_)
  have hs := k.below.size
  simp only [colW, World.size_alloc] at hs
  exact columns1 u ((hT.kept hW).kept k) _ _ b o cap (by omega) (by omega) (by omega) C hl hC x ((k.below.cell (p := ⟨w.heap.size, 0, none⟩) (by simp <;> omega)).trans (by simp [go_sem])) ((k.below.cell (p := ⟨w.heap.size + 1, 0, none⟩) (by simp <;> omega)).trans (by simp [go_sem])) (fun j hj => ((hW.trans k).below.cell (p := ⟨b, o + j, none⟩) hb).trans (hr j hj)) r hRes
 have hmf : ∀ (fn : Fn) (first cap : Array Value) (w : World), (Instr.makeFunc fn first cap).run Tryd.prog w = .ok (.func fn first cap) w := fun _ _ _ _ => rfl
 clear hr hT hRes hC hl
 generalize C.length = n at *
 go_enter Tryd.func43, Tryd.ntmps43
 go_wp2_with (first | (go_at_call 66; refine KT.out.mono ?_; rintro e w1 ⟨v, rfl, hN, hk1⟩; obtain ⟨vn, va, vl, vc, vx, rfl⟩ := hN.shape; obtain ⟨f0, f1, f2, f3⟩ := res_cells (w.heap.size + 2) (by simp) hk1 (by simp [go_sem]) (by simp [go_sem]) (by simp [go_sem]) (fun o => by simp [go_sem])))
 have := res_done (w.heap.size + 2) (by omega) (by simp) hW hN hk1 (.bool vn) (.slice va vl vc) (.int .i64 vx)
 refine bodyPost_ret (v := .tuple #[.agg #[.bool vn, .slice va vl vc, .int .i64 vx], .int .i64 0]) (by simp [results, Tryd.results43, go_sem, f0, f1, f2]) rfl ⟨_, rfl, this.1, this.2⟩
theorem mtold (w : World) (hT : Tab w) (b : Nat) (a0 : Bool) (a1 : Value) (a2 : Int) (p m z : Bool) (n : Int) (C : List Int) (lo hi l o : Nat) (hl : min lo hi = l) (ho : o = if 141 = l then 7 else 7 + l) (hlo : lo ≤ 141) (hhi : hi ≤ 141) (hM : MkAt w b [.bool a0, a1, .int .i64 a2, .bool p, .bool m, .bool z] n C lo hi) (r : Nm)
   (KC : Hid (∀ u, Kept w u → Calls Tryd.prog 43 #[.slice (some ⟨b, o, none⟩) (hi - l) (141 - l), .int .i64 (-2148 + lo * 30)] u fun e w' => ∃ v, e = .returned (.tuple #[v, .int .i64 0]) ∧ New u w' v r ∧ Kept u w')) :
    Calls Tryd.prog 23 #[.pointer (some ⟨b, 0, none⟩)] w fun e w' => ∃ vn va vl vc vx, e = .returned (.agg #[.bool vn, .slice va vl vc, .int .i64 vx, .bool p, .bool m, .bool z]) ∧ New w w' (.agg #[.bool vn, .slice va vl vc, .int .i64 vx]) r ∧ Grw b w w' := by
  have hbw := hM.lt
  have HM : Hid (∀ u, Kept w u → MkAt u b [.bool a0, a1, .int .i64 a2, .bool p, .bool m, .bool z] n C lo hi) := fun u k => hM.kept k
  have q1 : IntKind.i64.wrap ((lo : Int) * 30) = (lo : Int) * 30 := by rw [wrap_i64]; omega
  have q2 : IntKind.i64.wrap (-2148 + (lo : Int) * 30) = -2148 + (lo : Int) * 30 := by rw [wrap_i64]; omega
  have q3 : min (lo : Int) (hi : Int) = (l : Int) := by omega
  have q4 : l ≤ hi := by omega
  have hsl : ∀ u, (Instr.sliceAt 52 (.pointer (some ⟨b, 7, none⟩)) (some (.int .i64 (l : Int))) (some (.int .i64 (hi : Int))) none).run Tryd.prog u = .ok (.slice (some ⟨b, o, none⟩) (hi - l) (141 - l)) u := fun u => by
    have al : (Tryd.prog).arrayLen 52 = 141 := by kernel_rfl
    have el : (Tryd.prog).elem 52 = 3 := by kernel_rfl
    have := run_sliceAt_array_lh (P := Tryd.prog) u 52 ⟨b, 7, none⟩ (by kernel_rfl) .i64 .i64 (l : Int) (hi : Int) (by omega) (by omega) (by rw [al]; omega)
    rw [this, al, el]
    obtain ⟨i, hi0, hz, hs, hby⟩ := info_parts (int_info)
    have hsz : (sizeOf 3).run Tryd.prog u = .ok 1 u := by simp [sizeOf, typeInfo, hi0, hs]
    rw [hsz]
    simp only [Result.andThen, slicedAt, Int.toNat_natCast, Nat.mul_one]
    subst ho
    by_cases h : 141 = l
    · simp [h]
    · simp [h, Addr.add]
  clear hl ho
  go_enter Tryd.func23, Tryd.ntmps23
  go_upto_region 1 with fail
  obtain ⟨X, hX⟩ : ∃ X, X = w.alloc (.cells #[.bool false, .slice none 0 0, .int .i64 0, .bool false, .bool false, .bool false] 31) := ⟨_, rfl⟩
  have hK : Kept w X := by rw [hX]; exact (Kept.refl w).alloc _ _
  have HF : Hid (∀ u, Kept X u → u.cell? ⟨b, 0, none⟩ = some (.bool a0) ∧ u.cell? ⟨b, 1, none⟩ = some a1 ∧ u.cell? ⟨b, 2, none⟩ = some (.int .i64 a2) ∧ (∀ o, u.frozen? ⟨b, o, none⟩ = false) ∧ u.cell? ⟨b, 3, none⟩ = some (.bool p) ∧ u.cell? ⟨b, 4, none⟩ = some (.bool m) ∧ u.cell? ⟨b, 5, none⟩ = some (.bool z)) := fun u k => by
    have m := HM.out u (hK.trans k)
    refine ⟨by rw [m.cell]; simp [mkC], by rw [m.cell]; simp [mkC], by rw [m.cell]; simp [mkC], m.fz, by rw [m.cell]; simp [mkC], by rw [m.cell]; simp [mkC], by rw [m.cell]; simp [mkC]⟩
  have HS : Hid (∀ u, Kept X u → u.cell? ⟨b, 148, none⟩ = some (.int .i64 lo) ∧ u.cell? ⟨b, 149, none⟩ = some (.int .i64 hi)) := fun u k => ⟨(HM.out u (hK.trans k)).low, (HM.out u (hK.trans k)).high⟩
  have l0 := (HS.out X (Kept.refl _)).1
  have l1 := (HS.out X (Kept.refl _)).2
  rw [← hX]
  have hXs : X.heap.size = w.heap.size + 1 := by rw [hX]; simp
  have hbn : w.heap.size ≠ b := by omega
  have hbn2 : b ≠ w.heap.size := by omega
  have HR : Hid (∀ u, Kept X u → u.cell? ⟨w.heap.size, 0, none⟩ = some (.bool false) ∧ u.cell? ⟨w.heap.size, 1, none⟩ = some (.slice none 0 0) ∧ u.cell? ⟨w.heap.size, 2, none⟩ = some (.int .i64 0) ∧ u.cell? ⟨w.heap.size, 3, none⟩ = some (.bool false) ∧ u.cell? ⟨w.heap.size, 4, none⟩ = some (.bool false) ∧ u.cell? ⟨w.heap.size, 5, none⟩ = some (.bool false) ∧ ∀ o, u.frozen? ⟨w.heap.size, o, none⟩ = false) := fun u k => by
    refine ⟨?_, ?_, ?_, ?_, ?_, ?_, fun o => ?_⟩
    iterate 6 (exact (k.below.cell (by rw [hXs]; simp)).trans (by rw [hX]; simp [go_sem]))
    exact (k.frozen _).trans (by rw [hX]; simp [go_sem])
  have kd : Kept X X.drew := (Kept.refl X).drew
  clear HM hM hT hX
  go_region_held (fun u => u.cell? ⟨b, 148, none⟩ = some (.int .i64 lo) ∧ u.cell? ⟨b, 149, none⟩ = some (.int .i64 hi)) (first | assumption | exact HS.out _ kd | exact HS.out _ (kd.trans (by assumption)) | (constructor <;> simp [go_sem, f4, f5])) (first | (go_at_call 43; refine (KC.out _ (hK.trans kd)).mono ?_; rintro e w1 ⟨v, rfl, hN, hk1⟩; obtain ⟨vn, va, vl, vc, vx, rfl⟩ := hN.shape; obtain ⟨f0, f1, f2, f3⟩ := HF.out _ (kd.trans hk1); obtain ⟨f4, f5⟩ := HS.out _ (kd.trans hk1)))
  obtain ⟨r0, r1, r2, r3, r4, r5, r6⟩ := HR.out _ (kd.trans hk1)
  obtain ⟨f3, f6, f7, f8⟩ := f3
  clear HR HF HS KC l0 l1 f4 f5
  go_wp2_with fail
  refine bodyPost_ret (v := .agg #[.bool vn, .slice va vl vc, .int .i64 vx, .bool p, .bool m, .bool z]) (by simp [results, Tryd.results23, go_sem, r0, r1, r2, r3, r4, r5, hbn, hbn2]) rfl ⟨vn, va, vl, vc, vx, rfl, ?_, ?_⟩
  · rcases hN with h | ⟨g, cap, e, hg, ho, hne⟩
    · exact .inl h
    · have hsz : X.heap.size ≤ g := by simpa using hg
      have hgb : g ≠ b := by omega
      have hgw : g ≠ w.heap.size := by omega
      exact .inr ⟨g, cap, e, by omega, ((((((((ho.setOther (by simpa using hgb) _).setOther (by simpa using hgb) _).setOther (by simpa using hgb) _).setOther (by simpa using hgw) _).setOther (by simpa using hgw) _).setOther (by simpa using hgw) _).setOther (by simpa using hgw) _).setOther (by simpa using hgw) _).setOther (by simpa using hgw) _, hne⟩
  · have g0 := ((hK.trans kd).trans hk1).toGrw b
    exact ((((((((g0.setCell _ _).setCell _ _).setCell _ _).setNew (by simp) _).setNew (by simp) _).setNew (by simp) _).setNew (by simp) _).setNew (by simp) _).setNew (by simp) _
end Go.Proofs.YtpkeadfndgddlaaDoor
