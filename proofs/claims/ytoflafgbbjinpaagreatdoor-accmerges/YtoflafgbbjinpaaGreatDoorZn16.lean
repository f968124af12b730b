/- acc's add, where both floats are finite. exact's Columns: the closure. exact's Columns. acc's told. what acc's told answers: the sum of the columns. -/
import Derived.Test.YtoflafgbbjinpaaGreatDoorZn15
import Derived.Test.YtoflafgbbjinpaaGreatDoorZn10
import Derived.Test.YtoflafgbbjinpaaGreatDoorZn11
namespace Go.Proofs.YtoflafgbbjinpaaGreatDoor
open Go.ChangeShapes Go.WideShapes Go.ChangeAt Go.RowKit
set_option linter.unusedVariables false
set_option linter.unusedSimpArgs false
set_option maxHeartbeats 16000000
set_option maxRecDepth 100000
theorem special_any (w : World) (b q : Nat) (ac : List Value) (n x : Int) (C : List Int) (lo hi : Int) (hM : MkAt w b ac n C lo hi) (hq : w.cell? ⟨q, 0, none⟩ = some (.pointer (some ⟨b, 0, none⟩))) (v : Int) (KC : Hid (∀ u, Calls Tryz.prog 26 #[.int .i64 x, .int .i64 n] u fun e w' => e = .returned (.int .i64 v) ∧ Kept u w')) :
  Calls Tryz.prog 114 #[.int .i64 x, .pointer (some ⟨q, 0, none⟩)] w fun e w' => e = .returned (.bool (decide (3 ≤ v))) ∧ Kept w w' := by
 have hw0 := hM.width
 go_enter Tryz.func114, Tryz.ntmps114
 go_wp2_with fail
 refine (KC.out _).mono ?_
 rintro e w1 ⟨rfl, k1⟩
 go_wp2_with fail
 go_ret
 exact ⟨rfl, k1⟩
theorem add_fin (w : World) (b : Nat) (ac : List Value) (n x y : Int) (C : List Int) (lo hi : Int) (hM : MkAt w b ac n C lo hi) (v1 v2 : Int) (hx : v1 < 3) (hy : v2 < 3) (Post : World → Prop)
  (KC1 : Hid (∀ u, Calls Tryz.prog 26 #[.int .i64 x, .int .i64 n] u fun e w' => e = .returned (.int .i64 v1) ∧ Kept u w'))
  (KC2 : Hid (∀ u, Calls Tryz.prog 26 #[.int .i64 y, .int .i64 n] u fun e w' => e = .returned (.int .i64 v2) ∧ Kept u w'))
  (KL : Hid (∀ u, Kept w u → Calls Tryz.prog 115 #[.pointer (some ⟨b, 0, none⟩), .int .i64 x, .int .i64 y] u fun e w' => e = .returned (.tuple #[]) ∧ Post w')) :
  Calls Tryz.prog 69 #[.pointer (some ⟨b, 0, none⟩), .int .i64 x, .int .i64 y] w fun e w' => e = .returned (.tuple #[]) ∧ Post w' := by
 have d1 : decide (3 ≤ v1) = false := decide_eq_false (by omega)
 have d2 : decide (3 ≤ v2) = false := decide_eq_false (by omega)
 obtain ⟨X, hX⟩ : ∃ X, X = w.alloc (.cells #[.pointer (some ⟨b, 0, none⟩)] 145) := ⟨_, rfl⟩
 have k0 : Kept w X := by rw [hX]; exact (Kept.refl w).alloc _ _
 have HQ : Hid (∀ u, Kept X u → u.cell? ⟨w.heap.size, 0, none⟩ = some (.pointer (some ⟨b, 0, none⟩))) := fun u k => by
  have hb : w.heap.size < X.heap.size := by rw [hX]; simp
  refine (k.below.cell (p := ⟨w.heap.size, 0, none⟩) hb).trans ?_
  rw [hX]
  simp [go_sem]
 have HS1 : Hid (∀ u, Kept X u → Calls Tryz.prog 114 #[.int .i64 x, .pointer (some ⟨w.heap.size, 0, none⟩)] u fun e w' => e = .returned (.bool false) ∧ Kept u w') := fun u k => by
  have := special_any u b w.heap.size ac n x C lo hi (hM.kept (k0.trans k)) (HQ.out u k) v1 KC1
  rw [d1] at this
  exact this
 have HS2 : Hid (∀ u, Kept X u → Calls Tryz.prog 114 #[.int .i64 y, .pointer (some ⟨w.heap.size, 0, none⟩)] u fun e w' => e = .returned (.bool false) ∧ Kept u w') := fun u k => by
  have := special_any u b w.heap.size ac n y C lo hi (hM.kept (k0.trans k)) (HQ.out u k) v2 KC2
  rw [d2] at this
  exact this
 clear hM KC1 KC2 d1 d2 hx hy
 go_enter Tryz.func69, Tryz.ntmps69
 go_upto_region 1 with fail
 rw [← hX]
 clear hX
 go_wp2_with fail
 refine (HS1.out _ (Kept.refl _)).mono ?_
 rintro e w1 ⟨rfl, k1⟩
 go_wp2_with fail
 refine (HS2.out _ k1).mono ?_
 rintro e w2 ⟨rfl, k2⟩
 have hq := HQ.out _ (k1.trans k2)
 go_wp2_with fail
 refine (KL.out _ (k0.trans (k1.trans k2))).mono ?_
 rintro e w3 ⟨rfl, h3⟩
 go_wp2_with fail
 exact bodyPost_ret (v := .tuple #[]) (by simp [results, Tryz.results69, go_sem]) rfl ⟨rfl, h3⟩
theorem Own.setCells {g cap : Nat} : ∀ (vs A B : List Int) (w : World), Own w g cap (A ++ B) → vs.length ≤ B.length → Own (w.setCells g A.length (vs.map (Value.int .i64))) g cap (A ++ vs ++ B.drop vs.length)
 | [], A, B, w, h, _ => by simpa [World.setCells] using h
 | v :: r, A, [], w, h, hl => by simp at hl
 | v :: r, A, b :: B, w, h, hl => by
  have h1 := h.set A.length v
  have e : (A ++ b :: B).set A.length v = (A ++ [v]) ++ B := by simp
  rw [e] at h1
  have := Own.setCells r (A ++ [v]) B _ h1 (by simpa using hl)
  simpa [World.setCells] using this
theorem cv_near : ∀ (C : List Int), (∀ j, -9223372036854775807 ≤ C.getD j 0 ∧ C.getD j 0 ≤ 9223372036854775807) → -(2 : Int) ^ 34 * ((2 : Int) ^ (30 * C.length) - 1) ≤ cv C ∧ cv C ≤ (2 : Int) ^ 34 * ((2 : Int) ^ (30 * C.length) - 1)
 | [], _ => by simp [cv]
 | c :: r, h => by
  have h0 := h 0
  have ih := cv_near r (fun j => by simpa using h (j + 1))
  simp only [List.getD_cons_zero] at h0
  rw [List.length_cons, Nat.mul_add, Int.pow_add, cv]
  obtain ⟨P, hP⟩ : ∃ P, P = (2 : Int) ^ (30 * r.length) := ⟨_, rfl⟩
  rw [← hP] at ih ⊢
  generalize cv r = s at *
  omega
theorem cv_noughts : ∀ C : List Int, cv (C ++ [0, 0]) = cv C
 | [] => by simp [cv]
 | c :: r => by rw [List.cons_append, cv, cv, cv_noughts r]
theorem columns1 (w : World) (hT : Tab w) (q1 q2 b o cap : Nat) (h1 : q1 < w.heap.size) (h2 : q2 < w.heap.size) (hb : b < w.heap.size) (C : List Int) (hl : C.length ≤ 141) (hC : ∀ j, -9223372036854775807 ≤ C.getD j 0 ∧ C.getD j 0 ≤ 9223372036854775807) (x : Int) (c1 : w.cell? ⟨q1, 0, none⟩ = some (.slice (some ⟨b, o, none⟩) C.length cap)) (c2 : w.cell? ⟨q2, 0, none⟩ = some (.int .i64 x)) (hr : ∀ j, j < C.length → w.cell? ⟨b, o + j, none⟩ = some (.int .i64 (C.getD j 0))) (r : Nm) (hRes : frm (decide (cv C < 0)) (cv C).natAbs x = some r) :
  Calls Tryz.prog 151 #[.pointer (some ⟨q1, 0, none⟩), .pointer (some ⟨q2, 0, none⟩)] w fun e w' => (∃ v, e = .returned v ∧ New w w' v r) ∧ Kept w w' := by
 have hK : Kept w (numW w) := (Kept.refl w).alloc _ _
 have q : IntKind.i64.wrap ((C.length : Int) + 2) = (C.length : Int) + 2 := by rw [wrap_i64]; omega
 have hmk : ∀ u, (Instr.makeSlice 22 (.int .i64 ((C.length : Int) + 2)) (.int .i64 ((C.length : Int) + 2))).run Tryz.prog u = .ok (.slice (some ⟨u.heap.size, 0, none⟩) (C.length + 2) (C.length + 2)) (u.alloc (.cells (madeCells #[.int .i64 0] (C.length + 2)) 3)) := make_run (C.length + 2) (by omega)
 have e1 := (hK.below.cell (p := ⟨q1, 0, none⟩) h1).trans c1
 have e2 := (hK.below.cell (p := ⟨q2, 0, none⟩) h2).trans c2
 have hO := own_made (C.length + 2) (by omega) (numW w)
 have hK2 : Kept (numW w) ((numW w).alloc (.cells (madeCells #[.int .i64 0] (C.length + 2)) 3)) := (Kept.refl _).alloc _ _
 have hK3 : Kept (numW w) (((numW w).alloc (.cells (madeCells #[.int .i64 0] (C.length + 2)) 3)).setCells (w.heap.size + 1) 0 (C.map (Value.int .i64))) :=
  hK2.grw (g := w.heap.size + 1) (by simp) (Grw.setCells _ ((Kept.refl _).toGrw _) 0)
 have hO2 : Own (((numW w).alloc (.cells (madeCells #[.int .i64 0] (C.length + 2)) 3)).setCells (w.heap.size + 1) 0 (C.map (Value.int .i64))) (w.heap.size + 1) (C.length + 2) (C ++ [0, 0]) := by
  have := Own.setCells C [] (List.replicate (C.length + 2) 0) _ (by simpa using hO) (by simp)
  have e : (List.replicate (C.length + 2) (0 : Int)).drop C.length = [0, 0] := by rw [List.drop_replicate, Nat.add_sub_cancel_left]; rfl
  rw [e] at this
  simpa using this
 have hcp : (Builtin.copy_ #[22, 22] 3 #[.slice (some ⟨w.heap.size + 1, 0, none⟩) (C.length + 2) (C.length + 2), .slice (some ⟨b, o, none⟩) C.length cap]).run Tryz.prog ((numW w).alloc (.cells (madeCells #[.int .i64 0] (C.length + 2)) 3)) = .ok (goInt C.length) (((numW w).alloc (.cells (madeCells #[.int .i64 0] (C.length + 2)) 3)).setCells (w.heap.size + 1) 0 (C.map (Value.int .i64))) := by
  have := run_copy_cells (P := Tryz.prog) ((numW w).alloc (.cells (madeCells #[.int .i64 0] (C.length + 2)) 3)) 22 22 3 3 (w.heap.size + 1) 0 (C.length + 2) (C.length + 2) ⟨b, o, none⟩ C.length cap (C.map (Value.int .i64)) li_under (by kernel_rfl) (by simp) (fun j v hv => ?_) (fun j hj => ?_) (fun j hj => ?_) (by simp [Value.oneCell'])
  ·simpa using this
  ·rw [List.getElem?_map] at hv
   obtain ⟨c, hc, rfl⟩ := Option.map_eq_some_iff.mp hv
   have hj : j < C.length := by
    rcases Nat.lt_or_ge j C.length with h | h
    ·exact h
    ·rw [List.getElem?_eq_none h] at hc; exact absurd hc (by simp)
   have := (hK.trans hK2).below.cell (p := ⟨b, o + j, none⟩) hb
   have ea : (⟨b, o, none⟩ : Addr).add j = ⟨b, o + j, none⟩ := by simp [Addr.add]
   rw [ea]
   refine (this.trans (hr j hj)).trans ?_
   rw [List.getD_eq_getElem?_getD, hc]; rfl
  ·have := hO.cell j (by simp at hj ⊢; omega)
   simp only [Nat.zero_add]
   have e : (numW w).heap.size = w.heap.size + 1 := by simp
   rw [e] at this
   rw [this]; rfl
  ·have e : (numW w).heap.size = w.heap.size + 1 := by simp
   rw [e] at hO
   exact hO.free _
 have KS : Hid (Calls Tryz.prog 113 #[.slice (some ⟨w.heap.size + 1, 0, none⟩) (C.length + 2) (C.length + 2), .int .i64 x] (((numW w).alloc (.cells (madeCells #[.int .i64 0] (C.length + 2)) 3)).setCells (w.heap.size + 1) 0 (C.map (Value.int .i64))) fun e w' => ToldR (some r) (numW w) w' e ∧ Kept (numW w) w') := by
  have hn := cv_near C hC
  have e : cv (C ++ [0, 0]) = cv C := cv_noughts C
  have hP : (2 : Int) ^ (30 * (C.length + 2)) = (2 : Int) ^ (30 * C.length) * 2 ^ 60 := by rw [Nat.mul_add, Int.pow_add]
  have hp : 0 < (2 : Int) ^ (30 * C.length) := Int.pow_pos (by decide)
  refine settled_any _ (C.length + 2) (C.length + 2) (w.heap.size + 1) x (C ++ [0, 0]) (by simp) (by omega) (fun j => ?_) (cv C) e (by rw [hP]; omega) (by rw [hP]; omega) (numW w) (hT.kept hK) hK3 (by simp) hO2 (some r) hRes
  rw [List.getD_eq_getElem?_getD, List.getElem?_append]
  split
  ·have := hC j
   rwa [List.getD_eq_getElem?_getD] at this
  ·generalize j - C.length = i
   rcases i with _ | _ | i <;> simp
 clear c1 c2 hO hO2 hr
 have hs := hK3.below.size
 go_enter Tryz.func151, Tryz.ntmps151
 have ez := (hK3.below.cell (p := ⟨q2, 0, none⟩) (by simp; omega)).trans e2
 obtain ⟨X, hX⟩ : ∃ X, X = (((numW w).alloc (.cells (madeCells #[.int .i64 0] (C.length + 2)) 3)).setCells (w.heap.size + 1) 0 (C.map (Value.int .i64))) := ⟨_, rfl⟩
 rw [← hX] at hcp KS hK3 ez hs
 clear hX
 go_wp2_with (first | (go_at_call 113; refine KS.out.mono ?_; rintro e w1 ⟨⟨v, rfl, hN⟩, hk1⟩; obtain ⟨vn, va, vl, vc, vx, rfl⟩ := hN.shape; obtain ⟨f0, f1, f2, f3⟩ := num_cells hk1))
 have := num_done hN hk1 (.bool vn) (.slice va vl vc) (.int .i64 vx)
 exact bodyPost_ret (v := .agg #[.bool vn, .slice va vl vc, .int .i64 vx]) (by simp [results, Tryz.results151, go_sem, f0, f1, f2]) rfl ⟨⟨_, rfl, this.1⟩, this.2⟩
abbrev colW (w : World) (sv : Value) (x : Int) : World := ((w.alloc (.cells #[sv] 22)).alloc (.cells #[.int .i64 x] 3)).alloc nilNum
theorem colW_kept (w : World) (sv : Value) (x : Int) : Kept w (colW w sv x) := (((Kept.refl w).alloc _ _).alloc _ _).alloc _ _
theorem columns_ok (w : World) (hT : Tab w) (b o cap : Nat) (hb : b < w.heap.size) (C : List Int) (hl : C.length ≤ 141) (hC : ∀ j, -9223372036854775807 ≤ C.getD j 0 ∧ C.getD j 0 ≤ 9223372036854775807) (x : Int) (hr : ∀ j, j < C.length → w.cell? ⟨b, o + j, none⟩ = some (.int .i64 (C.getD j 0))) (r : Nm) (hRes : frm (decide (cv C < 0)) (cv C).natAbs x = some r) :
  Calls Tryz.prog 116 #[.slice (some ⟨b, o, none⟩) C.length cap, .int .i64 x] w fun e w' => ∃ v, e = .returned (.tuple #[v, .int .i64 0]) ∧ New w w' v r ∧ Kept w w' := by
 have hW := colW_kept w (.slice (some ⟨b, o, none⟩) C.length cap) x
 have KT : Hid (Calls Tryz.prog 62 #[.func (.func 151) #[] #[.pointer (some ⟨w.heap.size, 0, none⟩), .pointer (some ⟨w.heap.size + 1, 0, none⟩)], .slice none 0 0] (colW w (.slice (some ⟨b, o, none⟩) C.length cap) x) fun e w' => ∃ v, e = .returned (.tuple #[v, .int .i64 0]) ∧ New (colW w (.slice (some ⟨b, o, none⟩) C.length cap) x) w' v r ∧ Kept (colW w (.slice (some ⟨b, o, none⟩) C.length cap) x) w') := by
  refine told_ok 151 _ (fun w => call_of Tryz.func151 (by kernel_rfl) (by kernel_rfl) _ w) _ r _ (fun u k => allValid_0 u) (fun u k => ?_)
  have hs := k.below.size
  simp only [colW, World.size_alloc] at hs
  exact columns1 u ((hT.kept hW).kept k) _ _ b o cap (by omega) (by omega) (by omega) C hl hC x ((k.below.cell (p := ⟨w.heap.size, 0, none⟩) (by simp <;> omega)).trans (by simp [go_sem])) ((k.below.cell (p := ⟨w.heap.size + 1, 0, none⟩) (by simp <;> omega)).trans (by simp [go_sem])) (fun j hj => ((hW.trans k).below.cell (p := ⟨b, o + j, none⟩) hb).trans (hr j hj)) r hRes
 have hmf : ∀ (fn : Fn) (first cap : Array Value) (w : World), (Instr.makeFunc fn first cap).run Tryz.prog w = .ok (.func fn first cap) w := fun _ _ _ _ => rfl
 clear hr hT hRes hC hl
 generalize C.length = n at *
 go_enter Tryz.func116, Tryz.ntmps116
 go_wp2_with (first | (go_at_call 62; refine KT.out.mono ?_; rintro e w1 ⟨v, rfl, hN, hk1⟩; obtain ⟨vn, va, vl, vc, vx, rfl⟩ := hN.shape; obtain ⟨f0, f1, f2, f3⟩ := res_cells (w.heap.size + 2) (by simp) hk1 (by simp [go_sem]) (by simp [go_sem]) (by simp [go_sem]) (fun o => by simp [go_sem])))
 have := res_done (w.heap.size + 2) (by omega) (by simp) hW hN hk1 (.bool vn) (.slice va vl vc) (.int .i64 vx)
 refine bodyPost_ret (v := .tuple #[.agg #[.bool vn, .slice va vl vc, .int .i64 vx], .int .i64 0]) (by simp [results, Tryz.results116, go_sem, f0, f1, f2]) rfl ⟨_, rfl, this.1, this.2⟩
theorem mtold (w : World) (hT : Tab w) (b : Nat) (a0 : Bool) (a1 : Value) (a2 : Int) (p m z : Bool) (n : Int) (C : List Int) (lo hi l o : Nat) (hl : min lo hi = l) (ho : o = if 141 = l then 7 else 7 + l) (hlo : lo ≤ 141) (hhi : hi ≤ 141) (hM : MkAt w b [.bool a0, a1, .int .i64 a2, .bool p, .bool m, .bool z] n C lo hi) (r : Nm)
   (KC : Hid (∀ u, Kept w u → Calls Tryz.prog 116 #[.slice (some ⟨b, o, none⟩) (hi - l) (141 - l), .int .i64 (-2148 + lo * 30)] u fun e w' => ∃ v, e = .returned (.tuple #[v, .int .i64 0]) ∧ New u w' v r ∧ Kept u w')) :
    Calls Tryz.prog 70 #[.pointer (some ⟨b, 0, none⟩)] w fun e w' => ∃ vn va vl vc vx, e = .returned (.agg #[.bool vn, .slice va vl vc, .int .i64 vx, .bool p, .bool m, .bool z]) ∧ New w w' (.agg #[.bool vn, .slice va vl vc, .int .i64 vx]) r ∧ Grw b w w' := by
  have hbw := hM.lt
  have HM : Hid (∀ u, Kept w u → MkAt u b [.bool a0, a1, .int .i64 a2, .bool p, .bool m, .bool z] n C lo hi) := fun u k => hM.kept k
  have q1 : IntKind.i64.wrap ((lo : Int) * 30) = (lo : Int) * 30 := by rw [wrap_i64]; omega
  have q2 : IntKind.i64.wrap (-2148 + (lo : Int) * 30) = -2148 + (lo : Int) * 30 := by rw [wrap_i64]; omega
  have q3 : min (lo : Int) (hi : Int) = (l : Int) := by omega
  have q4 : l ≤ hi := by omega
  have hsl : ∀ u, (Instr.sliceAt 98 (.pointer (some ⟨b, 7, none⟩)) (some (.int .i64 (l : Int))) (some (.int .i64 (hi : Int))) none).run Tryz.prog u = .ok (.slice (some ⟨b, o, none⟩) (hi - l) (141 - l)) u := fun u => by
    have al : (Tryz.prog).arrayLen 98 = 141 := by kernel_rfl
    have el : (Tryz.prog).elem 98 = 3 := by kernel_rfl
    have := run_sliceAt_array_lh (P := Tryz.prog) u 98 ⟨b, 7, none⟩ (by kernel_rfl) .i64 .i64 (l : Int) (hi : Int) (by omega) (by omega) (by rw [al]; omega)
    rw [this, al, el]
    obtain ⟨i, hi0, hz, hs, hby⟩ := info_parts (int_info)
    have hsz : (sizeOf 3).run Tryz.prog u = .ok 1 u := by simp [sizeOf, typeInfo, hi0, hs]
    rw [hsz]
    simp only [Result.andThen, slicedAt, Int.toNat_natCast, Nat.mul_one]
    subst ho
    by_cases h : 141 = l
    · simp [h]
    · simp [h, Addr.add]
  clear hl ho
  go_enter Tryz.func70, Tryz.ntmps70
  go_upto_region 1 with fail
  obtain ⟨X, hX⟩ : ∃ X, X = w.alloc (.cells #[.bool false, .slice none 0 0, .int .i64 0, .bool false, .bool false, .bool false] 26) := ⟨_, rfl⟩
  have hK : Kept w X := by rw [hX]; exact (Kept.refl w).alloc _ _
  have HF : Hid (∀ u, Kept X u → u.cell? ⟨b, 0, none⟩ = some (.bool a0) ∧ u.cell? ⟨b, 1, none⟩ = some a1 ∧ u.cell? ⟨b, 2, none⟩ = some (.int .i64 a2) ∧ (∀ o, u.frozen? ⟨b, o, none⟩ = false) ∧ u.cell? ⟨b, 3, none⟩ = some (.bool p) ∧ u.cell? ⟨b, 4, none⟩ = some (.bool m) ∧ u.cell? ⟨b, 5, none⟩ = some (.bool z)) := fun u k => by
    have m := HM.out u (hK.trans k)
    refine ⟨by rw [m.cell]; simp [mkC], by rw [m.cell]; simp [mkC], by rw [m.cell]; simp [mkC], m.fz, by rw [m.cell]; simp [mkC], by rw [m.cell]; simp [mkC], by rw [m.cell]; simp [mkC]⟩
  have HS : Hid (∀ u, Kept X u → u.cell? ⟨b, 148, none⟩ = some (.int .i64 lo) ∧ u.cell? ⟨b, 149, none⟩ = some (.int .i64 hi)) := fun u k => ⟨(HM.out u (hK.trans k)).low, (HM.out u (hK.trans k)).high⟩
  have l0 := (HS.out X (Kept.refl _)).1
  have l1 := (HS.out X (Kept.refl _)).2
  rw [← hX]
  have hXs : X.heap.size = w.heap.size + 1 := by rw [hX]; simp
  have hbn : w.heap.size ≠ b := by omega
  have hbn2 : b ≠ w.heap.size := by omega
  have HR : Hid (∀ u, Kept X u → u.cell? ⟨w.heap.size, 0, none⟩ = some (.bool false) ∧ u.cell? ⟨w.heap.size, 1, none⟩ = some (.slice none 0 0) ∧ u.cell? ⟨w.heap.size, 2, none⟩ = some (.int .i64 0) ∧ u.cell? ⟨w.heap.size, 3, none⟩ = some (.bool false) ∧ u.cell? ⟨w.heap.size, 4, none⟩ = some (.bool false) ∧ u.cell? ⟨w.heap.size, 5, none⟩ = some (.bool false) ∧ ∀ o, u.frozen? ⟨w.heap.size, o, none⟩ = false) := fun u k => by
    refine ⟨?_, ?_, ?_, ?_, ?_, ?_, fun o => ?_⟩
    iterate 6 (exact (k.below.cell (by rw [hXs]; simp)).trans (by rw [hX]; simp [go_sem]))
    exact (k.frozen _).trans (by rw [hX]; simp [go_sem])
  have kd : Kept X X.drew := (Kept.refl X).drew
  clear HM hM hT hX
  go_region_held (fun u => u.cell? ⟨b, 148, none⟩ = some (.int .i64 lo) ∧ u.cell? ⟨b, 149, none⟩ = some (.int .i64 hi)) (first | assumption | exact HS.out _ kd | exact HS.out _ (kd.trans (by assumption)) | (constructor <;> simp [go_sem, f4, f5])) (first | (go_at_call 116; refine (KC.out _ (hK.trans kd)).mono ?_; rintro e w1 ⟨v, rfl, hN, hk1⟩; obtain ⟨vn, va, vl, vc, vx, rfl⟩ := hN.shape; obtain ⟨f0, f1, f2, f3⟩ := HF.out _ (kd.trans hk1); obtain ⟨f4, f5⟩ := HS.out _ (kd.trans hk1)))
  obtain ⟨r0, r1, r2, r3, r4, r5, r6⟩ := HR.out _ (kd.trans hk1)
  obtain ⟨f3, f6, f7, f8⟩ := f3
  clear HR HF HS KC l0 l1 f4 f5
  go_wp2_with fail
  refine bodyPost_ret (v := .agg #[.bool vn, .slice va vl vc, .int .i64 vx, .bool p, .bool m, .bool z]) (by simp [results, Tryz.results70, go_sem, r0, r1, r2, r3, r4, r5, hbn, hbn2]) rfl ⟨vn, va, vl, vc, vx, rfl, ?_, ?_⟩
  · rcases hN with h | ⟨g, cap, e, hg, ho, hne⟩
    · exact .inl h
    · have hsz : X.heap.size ≤ g := by simpa using hg
      have hgb : g ≠ b := by omega
      have hgw : g ≠ w.heap.size := by omega
      exact .inr ⟨g, cap, e, by omega, ((((((((ho.setOther (by simpa using hgb) _).setOther (by simpa using hgb) _).setOther (by simpa using hgb) _).setOther (by simpa using hgw) _).setOther (by simpa using hgw) _).setOther (by simpa using hgw) _).setOther (by simpa using hgw) _).setOther (by simpa using hgw) _).setOther (by simpa using hgw) _, hne⟩
  · have g0 := ((hK.trans kd).trans hk1).toGrw b
    exact ((((((((g0.setCell _ _).setCell _ _).setCell _ _).setNew (by simp) _).setNew (by simp) _).setNew (by simp) _).setNew (by simp) _).setNew (by simp) _).setNew (by simp) _
theorem cv_append : ∀ A B : List Int, cv (A ++ B) = cv A + 2 ^ (30 * A.length) * cv B
 | [], B => by simp [cv]
 | a :: A, B => by
  rw [List.cons_append, cv, cv, cv_append A B, List.length_cons, Nat.mul_add, Int.pow_add, Int.mul_add, Int.add_assoc]
  congr 2
  rw [show (2 : Int) ^ (30 * 1) = 1073741824 by decide]
  simp only [Int.mul_assoc, Int.mul_comm, Int.mul_left_comm]
theorem cv_nought : ∀ C : List Int, (∀ k, C.getD k 0 = 0) → cv C = 0
 | [], _ => rfl
 | c :: r, h => by
  have h0 := h 0
  simp only [List.getD_cons_zero] at h0
  rw [cv, h0, cv_nought r (fun k => by simpa using h (k + 1))]
  rfl
theorem getD_dt (C : List Int) (l m j : Nat) (hj : j < m) : ((C.drop l).take m).getD j 0 = C.getD (l + j) 0 := by
 rw [List.getD_eq_getElem?_getD, List.getD_eq_getElem?_getD, List.getElem?_take_of_lt hj, List.getElem?_drop]
theorem cv_cut (C : List Int) (l h : Nat) (hl : l ≤ h) (hh : h ≤ C.length) (hz : ∀ k, (k < l ∨ h ≤ k) → C.getD k 0 = 0) : cv C = cv ((C.drop l).take (h - l)) * 2 ^ (30 * l) := by
 have e : C = C.take l ++ ((C.drop l).take (h - l) ++ (C.drop l).drop (h - l)) := by rw [List.take_append_drop, List.take_append_drop]
 have z1 : cv (C.take l) = 0 := cv_nought _ (fun k => by
  rw [List.getD_eq_getElem?_getD, List.getElem?_take]
  split
  ·rw [← List.getD_eq_getElem?_getD]; exact hz k (.inl (by assumption))
  ·rfl)
 have z2 : cv ((C.drop l).drop (h - l)) = 0 := cv_nought _ (fun k => by
  rw [List.getD_eq_getElem?_getD, List.getElem?_drop, List.getElem?_drop, ← List.getD_eq_getElem?_getD]
  exact hz _ (.inr (by omega)))
 have hlen : (C.take l).length = l := by rw [List.length_take]; omega
 have := cv_append (C.take l) ((C.drop l).take (h - l) ++ (C.drop l).drop (h - l))
 rw [← e, z1, hlen, cv_append, z2, Int.mul_zero, Int.add_zero, Int.zero_add, Int.mul_comm] at this
 exact this
theorem frm_zero (s : Bool) (x : Int) : frm s 0 x = some ⟨false, [], 0⟩ := by simp [frm]
theorem told_any (w : World) (hT : Tab w) (b : Nat) (a0 : Bool) (a1 : Value) (a2 : Int) (p m z : Bool) (n : Int) (C : List Int) (lo hi : Int) (hM : MkAt w b [.bool a0, a1, .int .i64 a2, .bool p, .bool m, .bool z] n C lo hi) (hI : Inv C lo hi) (hC : ∀ j, -9223372036854775807 ≤ C.getD j 0 ∧ C.getD j 0 ≤ 9223372036854775807) (r : Nm) (hRes : frm (decide (cv C < 0)) (cv C).natAbs (-2148) = some r) :
  Calls Tryz.prog 70 #[.pointer (some ⟨b, 0, none⟩)] w fun e w' => ∃ vn va vl vc vx, e = .returned (.agg #[.bool vn, .slice va vl vc, .int .i64 vx, .bool p, .bool m, .bool z]) ∧ New w w' (.agg #[.bool vn, .slice va vl vc, .int .i64 vx]) r ∧ Grw b w w' := by
 obtain ⟨h1, h2⟩ := hI.lo0
 obtain ⟨h3, h4⟩ := hI.hi0
 have hz := hI.zero
 obtain ⟨lo, rfl⟩ : ∃ k : Nat, lo = (k : Int) := ⟨lo.toNat, by omega⟩
 obtain ⟨hi, rfl⟩ : ∃ k : Nat, hi = (k : Int) := ⟨hi.toNat, by omega⟩
 have hc := hM.c141
 obtain ⟨l, hl⟩ : ∃ l, min lo hi = l := ⟨_, rfl⟩
 obtain ⟨o, ho⟩ : ∃ o, o = if 141 = l then 7 else 7 + l := ⟨_, rfl⟩
 refine mtold w hT b a0 a1 a2 p m z n C lo hi l o hl ho (by omega) (by omega) hM r (fun u k => ?_)
 have hD : ((C.drop l).take (hi - l)).length = hi - l := by rw [List.length_take, List.length_drop]; omega
 have hR : frm (decide (cv ((C.drop l).take (hi - l)) < 0)) (cv ((C.drop l).take (hi - l))).natAbs (-2148 + (lo : Int) * 30) = some r := by
  by_cases hle : lo ≤ hi
  ·obtain rfl : l = lo := by omega
   have e := cv_cut C l hi hle (by omega) (fun k hk => hz k (by omega))
   generalize cv ((C.drop l).take (hi - l)) = D at *
   have hp : 0 < (2 : Int) ^ (30 * l) := Int.pow_pos (by decide)
   by_cases h0 : D = 0
   ·subst h0
    rw [e] at hRes
    simp only [Int.zero_mul, Int.natAbs_zero, frm_zero] at hRes ⊢
    exact hRes
   ·have e1 : decide (cv C < 0) = decide (D < 0) := by
     rw [e]
     congr 1
     rw [eq_iff_iff]
     constructor
     ·intro h
      apply Decidable.byContradiction
      intro g
      have := Int.mul_nonneg (show 0 ≤ D by omega) (Int.le_of_lt hp)
      omega
     ·intro h
      exact Int.mul_neg_of_neg_of_pos h hp
    have e2 : (cv C).natAbs = D.natAbs * 2 ^ (30 * l) := by
     rw [e, Int.natAbs_mul, Int.natAbs_pow]; rfl
    rw [e1, e2, frm_shift _ _ _ _ (by omega)] at hRes
    rw [← hRes]
    congr 1
    omega
  ·have e0 : cv C = 0 := cv_nought C (fun k => hz k (by omega))
   have e1 : (C.drop l).take (hi - l) = [] := by rw [show hi - l = 0 by omega]; rfl
   rw [e0] at hRes
   rw [e1]
   simp only [cv, Int.natAbs_zero, frm_zero] at hRes ⊢
   exact hRes
 have := columns_ok u (hT.kept k) b o (141 - l) (Nat.lt_of_lt_of_le hM.lt k.below.size) ((C.drop l).take (hi - l)) (by omega) (fun j => ?_) (-2148 + (lo : Int) * 30) (fun j hj => ?_) r hR
 ·rw [hD] at this
  exact this
 ·by_cases hj : j < hi - l
  ·rw [getD_dt C l _ j hj]; exact hC _
  ·rw [List.getD_eq_getElem?_getD, List.getElem?_eq_none (by omega)]; simp
 ·rw [hD] at hj
  rw [getD_dt C l _ j hj, ho, if_neg (by omega), Nat.add_assoc]
  exact (hM.kept k).col (l + j) (by omega)
end Go.Proofs.YtoflafgbbjinpaaGreatDoor
