/- exact's Columns: the closure. exact's Columns. acc's told. what acc's told answers: the sum of the columns. acc's Valid,and look without patterns. acc's look of patterns. acc's notFinite. -/
import Derived.Test.YtoflafgbbjinpaaGreatDoorX13
import Derived.Test.YtoflafgbbjinpaaGreatDoorX08
import Derived.Test.YtoflafgbbjinpaaGreatDoorX09
namespace Go.Proofs.YtoflafgbbjinpaaGreatDoor
open Go.ChangeShapes Go.WideShapes Go.ChangeAt Go.RowKit
set_option linter.unusedVariables false
set_option linter.unusedSimpArgs false
set_option maxHeartbeats 16000000
set_option maxRecDepth 100000
theorem Own.setCells {g cap : Nat} : ∀ (vs A B : List Int) (w : World),Own w g cap (A ++ B) → vs.length ≤ B.length → Own (w.setCells g A.length (vs.map (Value.int .i64))) g cap (A ++ vs ++ B.drop vs.length)
 | [],A,B,w,h,_ => by simpa [World.setCells] using h
 | v :: r,A,[],w,h,hl => by simp at hl
 | v :: r,A,b :: B,w,h,hl => by
  have h1:=h.set A.length v
  have e : (A ++ b :: B).set A.length v = (A ++ [v]) ++ B:=by simp
  rw [e] at h1
  have:=Own.setCells r (A ++ [v]) B _ h1 (by simpa using hl)
  simpa [World.setCells] using this
theorem cv_near : ∀ (C : List Int),(∀ j,-9223372036854775807 ≤ C.getD j 0 ∧ C.getD j 0 ≤ 9223372036854775807) → -(2 : Int) ^ 34 * ((2 : Int) ^ (30 * C.length) - 1) ≤ cv C ∧ cv C ≤ (2 : Int) ^ 34 * ((2 : Int) ^ (30 * C.length) - 1)
 | [],_ => by simp [cv]
 | c :: r,h => by
  have h0:=h 0
  have ih:=cv_near r (fun j => by simpa using h (j + 1))
  simp only [List.getD_cons_zero] at h0
  rw [List.length_cons,Nat.mul_add,Int.pow_add,cv]
  obtain ⟨P,hP⟩ : ∃ P,P = (2 : Int) ^ (30 * r.length):=⟨_,rfl⟩
  rw [← hP] at ih ⊢
  generalize cv r = s at *
  omega
theorem cv_noughts : ∀ C : List Int,cv (C ++ [0,0]) = cv C
 | [] => by simp [cv]
 | c :: r => by rw [List.cons_append,cv,cv,cv_noughts r]
theorem columns1 (w : World) (hT : Tab w) (q1 q2 b o cap : Nat) (h1 : q1 < w.heap.size) (h2 : q2 < w.heap.size) (hb : b < w.heap.size) (C : List Int) (hl : C.length ≤ 141) (hC : ∀ j,-9223372036854775807 ≤ C.getD j 0 ∧ C.getD j 0 ≤ 9223372036854775807) (x : Int) (c1 : w.cell? ⟨q1,0,none⟩ = some (.slice (some ⟨b,o,none⟩) C.length cap)) (c2 : w.cell? ⟨q2,0,none⟩ = some (.int .i64 x)) (hr : ∀ j,j < C.length → w.cell? ⟨b,o + j,none⟩ = some (.int .i64 (C.getD j 0))) (r : Nm) (hRes : frm (decide (cv C < 0)) (cv C).natAbs x = some r) :
  Calls Tryz.prog 151 #[.pointer (some ⟨q1,0,none⟩),.pointer (some ⟨q2,0,none⟩)] w fun e w' => (∃ v,e = .returned v ∧ New w w' v r) ∧ Kept w w':=by
 have hK : Kept w (numW w):=(Kept.refl w).alloc _ _
 have q : IntKind.i64.wrap ((C.length : Int) + 2) = (C.length : Int) + 2:=by rw [wrap_i64]; omega
 have hmk : ∀ u,(Instr.makeSlice 22 (.int .i64 ((C.length : Int) + 2)) (.int .i64 ((C.length : Int) + 2))).run Tryz.prog u = .ok (.slice (some ⟨u.heap.size,0,none⟩) (C.length + 2) (C.length + 2)) (u.alloc (.cells (madeCells #[.int .i64 0] (C.length + 2)) 3)):=make_run (C.length + 2) (by omega)
 have e1:=(hK.below.cell (p:=⟨q1,0,none⟩) h1).trans c1
 have e2:=(hK.below.cell (p:=⟨q2,0,none⟩) h2).trans c2
 have hO:=own_made (C.length + 2) (by omega) (numW w)
 have hK2 : Kept (numW w) ((numW w).alloc (.cells (madeCells #[.int .i64 0] (C.length + 2)) 3)):=(Kept.refl _).alloc _ _
 have hK3 : Kept (numW w) (((numW w).alloc (.cells (madeCells #[.int .i64 0] (C.length + 2)) 3)).setCells (w.heap.size + 1) 0 (C.map (Value.int .i64))) :=
  hK2.grw (g:=w.heap.size + 1) (by simp) (Grw.setCells _ ((Kept.refl _).toGrw _) 0)
 have hO2 : Own (((numW w).alloc (.cells (madeCells #[.int .i64 0] (C.length + 2)) 3)).setCells (w.heap.size + 1) 0 (C.map (Value.int .i64))) (w.heap.size + 1) (C.length + 2) (C ++ [0,0]):=by
  have:=Own.setCells C [] (List.replicate (C.length + 2) 0) _ (by simpa using hO) (by simp)
  have e : (List.replicate (C.length + 2) (0 : Int)).drop C.length = [0,0]:=by rw [List.drop_replicate,Nat.add_sub_cancel_left]; rfl
  rw [e] at this
  simpa using this
 have hcp : (Builtin.copy_ #[22,22] 3 #[.slice (some ⟨w.heap.size + 1,0,none⟩) (C.length + 2) (C.length + 2),.slice (some ⟨b,o,none⟩) C.length cap]).run Tryz.prog ((numW w).alloc (.cells (madeCells #[.int .i64 0] (C.length + 2)) 3)) = .ok (goInt C.length) (((numW w).alloc (.cells (madeCells #[.int .i64 0] (C.length + 2)) 3)).setCells (w.heap.size + 1) 0 (C.map (Value.int .i64))):=by
  have:=run_copy_cells (P:=Tryz.prog) ((numW w).alloc (.cells (madeCells #[.int .i64 0] (C.length + 2)) 3)) 22 22 3 3 (w.heap.size + 1) 0 (C.length + 2) (C.length + 2) ⟨b,o,none⟩ C.length cap (C.map (Value.int .i64)) li_under (by kernel_rfl) (by simp) (fun j v hv => ?_) (fun j hj => ?_) (fun j hj => ?_) (by simp [Value.oneCell'])
  ·simpa using this
  ·rw [List.getElem?_map] at hv
   obtain ⟨c,hc,rfl⟩:=Option.map_eq_some_iff.mp hv
   have hj : j < C.length:=by
    rcases Nat.lt_or_ge j C.length with h | h
    ·exact h
    ·rw [List.getElem?_eq_none h] at hc; exact absurd hc (by simp)
   have:=(hK.trans hK2).below.cell (p:=⟨b,o + j,none⟩) hb
   have ea : (⟨b,o,none⟩ : Addr).add j = ⟨b,o + j,none⟩:=by simp [Addr.add]
   rw [ea]
   refine (this.trans (hr j hj)).trans ?_
   rw [List.getD_eq_getElem?_getD,hc]; rfl
  ·have:=hO.cell j (by simp at hj ⊢; omega)
   simp only [Nat.zero_add]
   have e : (numW w).heap.size = w.heap.size + 1:=by simp
   rw [e] at this
   rw [this]; rfl
  ·have e : (numW w).heap.size = w.heap.size + 1:=by simp
   rw [e] at hO
   exact hO.free _
 have KS : Hid (Calls Tryz.prog 113 #[.slice (some ⟨w.heap.size + 1,0,none⟩) (C.length + 2) (C.length + 2),.int .i64 x] (((numW w).alloc (.cells (madeCells #[.int .i64 0] (C.length + 2)) 3)).setCells (w.heap.size + 1) 0 (C.map (Value.int .i64))) fun e w' => ToldR (some r) (numW w) w' e ∧ Kept (numW w) w'):=by
  have hn:=cv_near C hC
  have e : cv (C ++ [0,0]) = cv C:=cv_noughts C
  have hP : (2 : Int) ^ (30 * (C.length + 2)) = (2 : Int) ^ (30 * C.length) * 2 ^ 60:=by rw [Nat.mul_add,Int.pow_add]
  have hp : 0 < (2 : Int) ^ (30 * C.length):=Int.pow_pos (by decide)
  refine settled_any _ (C.length + 2) (C.length + 2) (w.heap.size + 1) x (C ++ [0,0]) (by simp) (by omega) (fun j => ?_) (cv C) e (by rw [hP]; omega) (by rw [hP]; omega) (numW w) (hT.kept hK) hK3 (by simp) hO2 (some r) hRes
  rw [List.getD_eq_getElem?_getD,List.getElem?_append]
  split
  ·have:=hC j
   rwa [List.getD_eq_getElem?_getD] at this
  ·generalize j - C.length = i
   rcases i with _ | _ | i <;> simp
 clear c1 c2 hO hO2 hr
 have hs:=hK3.below.size
 go_enter Tryz.func151,Tryz.ntmps151
 have ez:=(hK3.below.cell (p:=⟨q2,0,none⟩) (by simp; omega)).trans e2
 obtain ⟨X,hX⟩ : ∃ X,X = (((numW w).alloc (.cells (madeCells #[.int .i64 0] (C.length + 2)) 3)).setCells (w.heap.size + 1) 0 (C.map (Value.int .i64))):=⟨_,rfl⟩
 rw [← hX] at hcp KS hK3 ez hs
 clear hX
 go_wp2_with (first | (go_at_call 113; refine KS.out.mono ?_; rintro e w1 ⟨⟨v,rfl,hN⟩,hk1⟩; obtain ⟨vn,va,vl,vc,vx,rfl⟩:=hN.shape; obtain ⟨f0,f1,f2,f3⟩:=num_cells hk1))
 have:=num_done hN hk1 (.bool vn) (.slice va vl vc) (.int .i64 vx)
 exact bodyPost_ret (v:=.agg #[.bool vn,.slice va vl vc,.int .i64 vx]) (by simp [results,Tryz.results151,go_sem,f0,f1,f2]) rfl ⟨⟨_,rfl,this.1⟩,this.2⟩
abbrev colW (w : World) (sv : Value) (x : Int) : World:=((w.alloc (.cells #[sv] 22)).alloc (.cells #[.int .i64 x] 3)).alloc nilNum
theorem colW_kept (w : World) (sv : Value) (x : Int) : Kept w (colW w sv x):=(((Kept.refl w).alloc _ _).alloc _ _).alloc _ _
theorem columns_ok (w : World) (hT : Tab w) (b o cap : Nat) (hb : b < w.heap.size) (C : List Int) (hl : C.length ≤ 141) (hC : ∀ j,-9223372036854775807 ≤ C.getD j 0 ∧ C.getD j 0 ≤ 9223372036854775807) (x : Int) (hr : ∀ j,j < C.length → w.cell? ⟨b,o + j,none⟩ = some (.int .i64 (C.getD j 0))) (r : Nm) (hRes : frm (decide (cv C < 0)) (cv C).natAbs x = some r) :
  Calls Tryz.prog 116 #[.slice (some ⟨b,o,none⟩) C.length cap,.int .i64 x] w fun e w' => ∃ v,e = .returned (.tuple #[v,.int .i64 0]) ∧ New w w' v r ∧ Kept w w':=by
 have hW:=colW_kept w (.slice (some ⟨b,o,none⟩) C.length cap) x
 have KT : Hid (Calls Tryz.prog 62 #[.func (.func 151) #[] #[.pointer (some ⟨w.heap.size,0,none⟩),.pointer (some ⟨w.heap.size + 1,0,none⟩)],.slice none 0 0] (colW w (.slice (some ⟨b,o,none⟩) C.length cap) x) fun e w' => ∃ v,e = .returned (.tuple #[v,.int .i64 0]) ∧ New (colW w (.slice (some ⟨b,o,none⟩) C.length cap) x) w' v r ∧ Kept (colW w (.slice (some ⟨b,o,none⟩) C.length cap) x) w'):=by
  refine told_ok 151 _ (fun w => call_of Tryz.func151 (by kernel_rfl) (by kernel_rfl) _ w) _ r _ (fun u k => allValid_0 u) (fun u k => ?_)
  have hs:=k.below.size
  simp only [colW,World.size_alloc] at hs
  exact columns1 u ((hT.kept hW).kept k) _ _ b o cap (by omega) (by omega) (by omega) C hl hC x ((k.below.cell (p:=⟨w.heap.size,0,none⟩) (by simp <;> omega)).trans (by simp [go_sem])) ((k.below.cell (p:=⟨w.heap.size + 1,0,none⟩) (by simp <;> omega)).trans (by simp [go_sem])) (fun j hj => ((hW.trans k).below.cell (p:=⟨b,o + j,none⟩) hb).trans (hr j hj)) r hRes
 have hmf : ∀ (fn : Fn) (first cap : Array Value) (w : World),(Instr.makeFunc fn first cap).run Tryz.prog w = .ok (.func fn first cap) w:=fun _ _ _ _ => rfl
 clear hr hT hRes hC hl
 generalize C.length = n at *
 go_enter Tryz.func116,Tryz.ntmps116
 go_wp2_with (first | (go_at_call 62; refine KT.out.mono ?_; rintro e w1 ⟨v,rfl,hN,hk1⟩; obtain ⟨vn,va,vl,vc,vx,rfl⟩:=hN.shape; obtain ⟨f0,f1,f2,f3⟩:=res_cells (w.heap.size + 2) (by simp) hk1 (by simp [go_sem]) (by simp [go_sem]) (by simp [go_sem]) (fun o => by simp [go_sem])))
 have:=res_done (w.heap.size + 2) (by omega) (by simp) hW hN hk1 (.bool vn) (.slice va vl vc) (.int .i64 vx)
 refine bodyPost_ret (v:=.tuple #[.agg #[.bool vn,.slice va vl vc,.int .i64 vx],.int .i64 0]) (by simp [results,Tryz.results116,go_sem,f0,f1,f2]) rfl ⟨_,rfl,this.1,this.2⟩
theorem mtold (w : World) (hT : Tab w) (b : Nat) (a0 : Bool) (a1 : Value) (a2 : Int) (p m z : Bool) (n : Int) (C : List Int) (lo hi l o : Nat) (hl : min lo hi = l) (ho : o = if 141 = l then 7 else 7 + l) (hlo : lo ≤ 141) (hhi : hi ≤ 141) (hM : MkAt w b [.bool a0, a1, .int .i64 a2, .bool p, .bool m, .bool z] n C lo hi) (r : Nm)
   (KC : Hid (∀ u, Kept w u → Calls Tryz.prog 116 #[.slice (some ⟨b, o, none⟩) (hi - l) (141 - l), .int .i64 (-2148 + lo * 30)] u fun e w' => ∃ v, e = .returned (.tuple #[v, .int .i64 0]) ∧ New u w' v r ∧ Kept u w')) :
    Calls Tryz.prog 70 #[.pointer (some ⟨b, 0, none⟩)] w fun e w' => ∃ vn va vl vc vx, e = .returned (.agg #[.bool vn, .slice va vl vc, .int .i64 vx, .bool p, .bool m, .bool z]) ∧ New w w' (.agg #[.bool vn, .slice va vl vc, .int .i64 vx]) r ∧ Grw b w w' := by
  have hbw := hM.lt
  have HM : Hid (∀ u, Kept w u → MkAt u b [.bool a0, a1, .int .i64 a2, .bool p, .bool m, .bool z] n C lo hi) := fun u k => hM.kept k
  have q1 : IntKind.i64.wrap ((lo : Int) * 30) = (lo : Int) * 30 := by rw [wrap_i64]; omega
  have q2 : IntKind.i64.wrap (-2148 + (lo : Int) * 30) = -2148 + (lo : Int) * 30 := by rw [wrap_i64]; omega
  have q3 : min (lo : Int) (hi : Int) = (l : Int) := by omega
  have q4 : l ≤ hi := by omega
  have hsl : ∀ u, (Instr.sliceAt 98 (.pointer (some ⟨b, 7, none⟩)) (some (.int .i64 (l : Int))) (some (.int .i64 (hi : Int))) none).run Tryz.prog u = .ok (.slice (some ⟨b, o, none⟩) (hi - l) (141 - l)) u := fun u => by
    have al : (Tryz.prog).arrayLen 98 = 141 := by kernel_rfl
    have el : (Tryz.prog).elem 98 = 3 := by kernel_rfl
    have := run_sliceAt_array_lh (P := Tryz.prog) u 98 ⟨b, 7, none⟩ (by kernel_rfl) .i64 .i64 (l : Int) (hi : Int) (by omega) (by omega) (by rw [al]; omega)
    rw [this, al, el]
    obtain ⟨i, hi0, hz, hs, hby⟩ := info_parts (int_info)
    have hsz : (sizeOf 3).run Tryz.prog u = .ok 1 u := by simp [sizeOf, typeInfo, hi0, hs]
    rw [hsz]
    simp only [Result.andThen, slicedAt, Int.toNat_natCast, Nat.mul_one]
    subst ho
    by_cases h : 141 = l
    · simp [h]
    · simp [h, Addr.add]
  clear hl ho
  go_enter Tryz.func70, Tryz.ntmps70
  go_upto_region 1 with fail
  obtain ⟨X, hX⟩ : ∃ X, X = w.alloc (.cells #[.bool false, .slice none 0 0, .int .i64 0, .bool false, .bool false, .bool false] 26) := ⟨_, rfl⟩
  have hK : Kept w X := by rw [hX]; exact (Kept.refl w).alloc _ _
  have HF : Hid (∀ u, Kept X u → u.cell? ⟨b, 0, none⟩ = some (.bool a0) ∧ u.cell? ⟨b, 1, none⟩ = some a1 ∧ u.cell? ⟨b, 2, none⟩ = some (.int .i64 a2) ∧ (∀ o, u.frozen? ⟨b, o, none⟩ = false) ∧ u.cell? ⟨b, 3, none⟩ = some (.bool p) ∧ u.cell? ⟨b, 4, none⟩ = some (.bool m) ∧ u.cell? ⟨b, 5, none⟩ = some (.bool z)) := fun u k => by
    have m := HM.out u (hK.trans k)
    refine ⟨by rw [m.cell]; simp [mkC], by rw [m.cell]; simp [mkC], by rw [m.cell]; simp [mkC], m.fz, by rw [m.cell]; simp [mkC], by rw [m.cell]; simp [mkC], by rw [m.cell]; simp [mkC]⟩
  have HS : Hid (∀ u, Kept X u → u.cell? ⟨b, 148, none⟩ = some (.int .i64 lo) ∧ u.cell? ⟨b, 149, none⟩ = some (.int .i64 hi)) := fun u k => ⟨(HM.out u (hK.trans k)).low, (HM.out u (hK.trans k)).high⟩
  have l0 := (HS.out X (Kept.refl _)).1
  have l1 := (HS.out X (Kept.refl _)).2
  rw [← hX]
  have hXs : X.heap.size = w.heap.size + 1 := by rw [hX]; simp
  have hbn : w.heap.size ≠ b := by omega
  have hbn2 : b ≠ w.heap.size := by omega
  have HR : Hid (∀ u, Kept X u → u.cell? ⟨w.heap.size, 0, none⟩ = some (.bool false) ∧ u.cell? ⟨w.heap.size, 1, none⟩ = some (.slice none 0 0) ∧ u.cell? ⟨w.heap.size, 2, none⟩ = some (.int .i64 0) ∧ u.cell? ⟨w.heap.size, 3, none⟩ = some (.bool false) ∧ u.cell? ⟨w.heap.size, 4, none⟩ = some (.bool false) ∧ u.cell? ⟨w.heap.size, 5, none⟩ = some (.bool false) ∧ ∀ o, u.frozen? ⟨w.heap.size, o, none⟩ = false) := fun u k => by
    refine ⟨?_, ?_, ?_, ?_, ?_, ?_, fun o => ?_⟩
    iterate 6 (exact (k.below.cell (by rw [hXs]; simp)).trans (by rw [hX]; simp [go_sem]))
    exact (k.frozen _).trans (by rw [hX]; simp [go_sem])
  have kd : Kept X X.drew := (Kept.refl X).drew
  clear HM hM hT hX
  go_region_held (fun u => u.cell? ⟨b, 148, none⟩ = some (.int .i64 lo) ∧ u.cell? ⟨b, 149, none⟩ = some (.int .i64 hi)) (first | assumption | exact HS.out _ kd | exact HS.out _ (kd.trans (by assumption)) | (constructor <;> simp [go_sem, f4, f5])) (first | (go_at_call 116; refine (KC.out _ (hK.trans kd)).mono ?_; rintro e w1 ⟨v, rfl, hN, hk1⟩; obtain ⟨vn, va, vl, vc, vx, rfl⟩ := hN.shape; obtain ⟨f0, f1, f2, f3⟩ := HF.out _ (kd.trans hk1); obtain ⟨f4, f5⟩ := HS.out _ (kd.trans hk1)))
  obtain ⟨r0, r1, r2, r3, r4, r5, r6⟩ := HR.out _ (kd.trans hk1)
  obtain ⟨f3, f6, f7, f8⟩ := f3
  clear HR HF HS KC l0 l1 f4 f5
  go_wp2_with fail
  refine bodyPost_ret (v := .agg #[.bool vn, .slice va vl vc, .int .i64 vx, .bool p, .bool m, .bool z]) (by simp [results, Tryz.results70, go_sem, r0, r1, r2, r3, r4, r5, hbn, hbn2]) rfl ⟨vn, va, vl, vc, vx, rfl, ?_, ?_⟩
  · rcases hN with h | ⟨g, cap, e, hg, ho, hne⟩
    · exact .inl h
    · have hsz : X.heap.size ≤ g := by simpa using hg
      have hgb : g ≠ b := by omega
      have hgw : g ≠ w.heap.size := by omega
      exact .inr ⟨g, cap, e, by omega, ((((((((ho.setOther (by simpa using hgb) _).setOther (by simpa using hgb) _).setOther (by simpa using hgb) _).setOther (by simpa using hgw) _).setOther (by simpa using hgw) _).setOther (by simpa using hgw) _).setOther (by simpa using hgw) _).setOther (by simpa using hgw) _).setOther (by simpa using hgw) _, hne⟩
  · have g0 := ((hK.trans kd).trans hk1).toGrw b
    exact ((((((((g0.setCell _ _).setCell _ _).setCell _ _).setNew (by simp) _).setNew (by simp) _).setNew (by simp) _).setNew (by simp) _).setNew (by simp) _).setNew (by simp) _
theorem cv_append : ∀ A B : List Int,cv (A ++ B) = cv A + 2 ^ (30 * A.length) * cv B
 | [],B => by simp [cv]
 | a :: A,B => by
  rw [List.cons_append,cv,cv,cv_append A B,List.length_cons,Nat.mul_add,Int.pow_add,Int.mul_add,Int.add_assoc]
  congr 2
  rw [show (2 : Int) ^ (30 * 1) = 1073741824 by decide]
  simp only [Int.mul_assoc,Int.mul_comm,Int.mul_left_comm]
theorem cv_nought : ∀ C : List Int,(∀ k,C.getD k 0 = 0) → cv C = 0
 | [],_ => rfl
 | c :: r,h => by
  have h0:=h 0
  simp only [List.getD_cons_zero] at h0
  rw [cv,h0,cv_nought r (fun k => by simpa using h (k + 1))]
  rfl
theorem getD_dt (C : List Int) (l m j : Nat) (hj : j < m) : ((C.drop l).take m).getD j 0 = C.getD (l + j) 0:=by
 rw [List.getD_eq_getElem?_getD,List.getD_eq_getElem?_getD,List.getElem?_take_of_lt hj,List.getElem?_drop]
theorem cv_cut (C : List Int) (l h : Nat) (hl : l ≤ h) (hh : h ≤ C.length) (hz : ∀ k,(k < l ∨ h ≤ k) → C.getD k 0 = 0) : cv C = cv ((C.drop l).take (h - l)) * 2 ^ (30 * l):=by
 have e : C = C.take l ++ ((C.drop l).take (h - l) ++ (C.drop l).drop (h - l)):=by rw [List.take_append_drop,List.take_append_drop]
 have z1 : cv (C.take l) = 0:=cv_nought _ (fun k => by
  rw [List.getD_eq_getElem?_getD,List.getElem?_take]
  split
  ·rw [← List.getD_eq_getElem?_getD]; exact hz k (.inl (by assumption))
  ·rfl)
 have z2 : cv ((C.drop l).drop (h - l)) = 0:=cv_nought _ (fun k => by
  rw [List.getD_eq_getElem?_getD,List.getElem?_drop,List.getElem?_drop,← List.getD_eq_getElem?_getD]
  exact hz _ (.inr (by omega)))
 have hlen : (C.take l).length = l:=by rw [List.length_take]; omega
 have:=cv_append (C.take l) ((C.drop l).take (h - l) ++ (C.drop l).drop (h - l))
 rw [← e,z1,hlen,cv_append,z2,Int.mul_zero,Int.add_zero,Int.zero_add,Int.mul_comm] at this
 exact this
theorem frm_zero (s : Bool) (x : Int) : frm s 0 x = some ⟨false,[],0⟩:=by simp [frm]
theorem told_any (w : World) (hT : Tab w) (b : Nat) (a0 : Bool) (a1 : Value) (a2 : Int) (p m z : Bool) (n : Int) (C : List Int) (lo hi : Int) (hM : MkAt w b [.bool a0,a1,.int .i64 a2,.bool p,.bool m,.bool z] n C lo hi) (hI : Inv C lo hi) (hC : ∀ j,-9223372036854775807 ≤ C.getD j 0 ∧ C.getD j 0 ≤ 9223372036854775807) (r : Nm) (hRes : frm (decide (cv C < 0)) (cv C).natAbs (-2148) = some r) :
  Calls Tryz.prog 70 #[.pointer (some ⟨b,0,none⟩)] w fun e w' => ∃ vn va vl vc vx,e = .returned (.agg #[.bool vn,.slice va vl vc,.int .i64 vx,.bool p,.bool m,.bool z]) ∧ New w w' (.agg #[.bool vn,.slice va vl vc,.int .i64 vx]) r ∧ Grw b w w':=by
 obtain ⟨h1,h2⟩:=hI.lo0
 obtain ⟨h3,h4⟩:=hI.hi0
 have hz:=hI.zero
 obtain ⟨lo,rfl⟩ : ∃ k : Nat,lo = (k : Int):=⟨lo.toNat,by omega⟩
 obtain ⟨hi,rfl⟩ : ∃ k : Nat,hi = (k : Int):=⟨hi.toNat,by omega⟩
 have hc:=hM.c141
 obtain ⟨l,hl⟩ : ∃ l,min lo hi = l:=⟨_,rfl⟩
 obtain ⟨o,ho⟩ : ∃ o,o = if 141 = l then 7 else 7 + l:=⟨_,rfl⟩
 refine mtold w hT b a0 a1 a2 p m z n C lo hi l o hl ho (by omega) (by omega) hM r (fun u k => ?_)
 have hD : ((C.drop l).take (hi - l)).length = hi - l:=by rw [List.length_take,List.length_drop]; omega
 have hR : frm (decide (cv ((C.drop l).take (hi - l)) < 0)) (cv ((C.drop l).take (hi - l))).natAbs (-2148 + (lo : Int) * 30) = some r:=by
  by_cases hle : lo ≤ hi
  ·obtain rfl : l = lo:=by omega
   have e:=cv_cut C l hi hle (by omega) (fun k hk => hz k (by omega))
   generalize cv ((C.drop l).take (hi - l)) = D at *
   have hp : 0 < (2 : Int) ^ (30 * l):=Int.pow_pos (by decide)
   by_cases h0 : D = 0
   ·subst h0
    rw [e] at hRes
    simp only [Int.zero_mul,Int.natAbs_zero,frm_zero] at hRes ⊢
    exact hRes
   ·have e1 : decide (cv C < 0) = decide (D < 0):=by
     rw [e]
     congr 1
     rw [eq_iff_iff]
     constructor
     ·intro h
      apply Decidable.byContradiction
      intro g
      have:=Int.mul_nonneg (show 0 ≤ D by omega) (Int.le_of_lt hp)
      omega
     ·intro h
      exact Int.mul_neg_of_neg_of_pos h hp
    have e2 : (cv C).natAbs = D.natAbs * 2 ^ (30 * l):=by
     rw [e,Int.natAbs_mul,Int.natAbs_pow]; rfl
    rw [e1,e2,frm_shift _ _ _ _ (by omega)] at hRes
    rw [← hRes]
    congr 1
    omega
  ·have e0 : cv C = 0:=cv_nought C (fun k => hz k (by omega))
   have e1 : (C.drop l).take (hi - l) = []:=by rw [show hi - l = 0 by omega]; rfl
   rw [e0] at hRes
   rw [e1]
   simp only [cv,Int.natAbs_zero,frm_zero] at hRes ⊢
   exact hRes
 have:=columns_ok u (hT.kept k) b o (141 - l) (Nat.lt_of_lt_of_le hM.lt k.below.size) ((C.drop l).take (hi - l)) (by omega) (fun j => ?_) (-2148 + (lo : Int) * 30) (fun j hj => ?_) r hR
 ·rw [hD] at this
  exact this
 ·by_cases hj : j < hi - l
  ·rw [getD_dt C l _ j hj]; exact hC _
  ·rw [List.getD_eq_getElem?_getD,List.getElem?_eq_none (by omega)]; simp
 ·rw [hD] at hj
  rw [getD_dt C l _ j hj,ho,if_neg (by omega),Nat.add_assoc]
  exact (hM.kept k).col (l + j) (by omega)
abbrev accV (ng : Bool) (s : Value) (x : Int) (p m z : Bool) : Value:=.agg #[.bool ng,s,.int .i64 x,.bool p,.bool m,.bool z]
theorem avalid_any (ng : Bool) (ao : Option Addr) (l cap : Nat) (x : Int) (p m z v : Bool) (w : World)
  (K : Hid (∀ u,Kept w u → Calls Tryz.prog 89 #[.agg #[.bool ng,.slice ao l cap,.int .i64 x]] u fun e w' => e = .returned (.bool v) ∧ Kept u w')) :
  Calls Tryz.prog 40 #[accV ng (.slice ao l cap) x p m z] w fun e w' => e = .returned (.bool v) ∧ Kept w w':=by
 obtain ⟨X,hX⟩ : ∃ X,X = w.alloc (.cells #[.bool ng,.slice ao l cap,.int .i64 x,.bool p,.bool m,.bool z] 26):=⟨_,rfl⟩
 have hK : Kept w X:=by rw [hX]; exact (Kept.refl w).alloc _ _
 go_enter Tryz.func40,Tryz.ntmps40
 go_wp2_with fail
 rw [← hX]
 refine (K.out _ hK).mono ?_
 rintro e w1 ⟨rfl,k1⟩
 go_wp2_with fail
 go_ret
 exact ⟨rfl,hK.trans k1⟩
def lkE (n : Int) (v : Bool) (L : List Int) : Int:=if val 0 n = false then 3 else if v = false then 7 else if L.all (val · n) = true then 0 else 6
theorem look_nil (n : Int) (ng : Bool) (ao po : Option Addr) (l cap c2 : Nat) (x : Int) (p m z v : Bool) (w : World)
  (K : Hid (∀ u,Kept w u → Calls Tryz.prog 89 #[.agg #[.bool ng,.slice ao l cap,.int .i64 x]] u fun e w' => e = .returned (.bool v) ∧ Kept u w')) :
  Calls Tryz.prog 67 #[.int .i64 n,accV ng (.slice ao l cap) x p m z,.slice po 0 c2] w fun e w' => e = .returned (.int .i64 (lkE n v [])) ∧ Kept w w':=by
 obtain ⟨X,hX⟩ : ∃ X,X = w.alloc (.cells #[.bool ng,.slice ao l cap,.int .i64 x,.bool p,.bool m,.bool z] 26):=⟨_,rfl⟩
 have hK : Kept w X:=by rw [hX]; exact (Kept.refl w).alloc _ _
 have KA : Hid (Calls Tryz.prog 40 #[accV ng (.slice ao l cap) x p m z] X fun e w' => e = .returned (.bool v) ∧ Kept X w'):=avalid_any ng ao l cap x p m z v X (fun u k => K.out u (hK.trans k))
 have KV : Hid (∀ u,Calls Tryz.prog 79 #[.int .i64 0,.int .i64 n] u fun e w' => e = .returned (.bool (val 0 n)) ∧ u = w'):=fun u => valid_any 0 n u
 clear K
 rw [hX] at KA
 obtain ⟨q,hq⟩ : ∃ q,q = val 0 n:=⟨_,rfl⟩
 rw [← hq] at KV
 unfold lkE
 rw [← hq]
 clear hq
 cases q <;> cases v
 all_goals
  go_enter Tryz.func67,Tryz.ntmps67
  go_wp2_with (first | (go_at_call 79; refine (KV.out _).mono ?_; rintro e w1 ⟨rfl,rfl⟩) | (go_at_call 40; refine KA.out.mono ?_; rintro e w1 ⟨rfl,k1⟩))
  try (refine wp_loop_rounds 1 ?_; rw [rounds_succ]; go_wp2_with fail)
  go_ret
  first
   | exact ⟨rfl,hX ▸ hK⟩
   | exact ⟨rfl,hK.trans (by rw [hX]; exact k1)⟩
theorem all_true (n : Int) (L : List Int) (h : ∀ j,j < L.length → val (L.getD j 0) n = true) : L.all (val · n) = true:=by
 rw [List.all_eq_true]
 intro d hd
 obtain ⟨i,hi,rfl⟩:=List.getElem_of_mem hd
 have:=h i hi
 rwa [List.getD_eq_getElem?_getD,List.getElem?_eq_getElem hi] at this
theorem all_false (n : Int) (L : List Int) (j : Nat) (hj : j < L.length) (h : val (L.getD j 0) n = false) : L.all (val · n) = false:=by
 rw [List.all_eq_false]
 refine ⟨L[j],List.getElem_mem hj,?_⟩
 rw [List.getD_eq_getElem?_getD,List.getElem?_eq_getElem hj] at h
 simpa using h
theorem look_some (n : Int) (ng : Bool) (ao : Option Addr) (l cap b off c2 : Nat) (x : Int) (p m z v : Bool) (L : List Int) (hlen : L.length < 100000000) (w : World) (hb : b < w.heap.size) (hr : Reads w b off L)
  (K : Hid (∀ u,Kept w u → Calls Tryz.prog 89 #[.agg #[.bool ng,.slice ao l cap,.int .i64 x]] u fun e w' => e = .returned (.bool v) ∧ Kept u w')) :
  Calls Tryz.prog 67 #[.int .i64 n,accV ng (.slice ao l cap) x p m z,.slice (some ⟨b,off,none⟩) L.length c2] w fun e w' => e = .returned (.int .i64 (lkE n v L)) ∧ Kept w w':=by
 obtain ⟨X,hX⟩ : ∃ X,X = w.alloc (.cells #[.bool ng,.slice ao l cap,.int .i64 x,.bool p,.bool m,.bool z] 26):=⟨_,rfl⟩
 have hK : Kept w X:=by rw [hX]; exact (Kept.refl w).alloc _ _
 have KA : Hid (Calls Tryz.prog 40 #[accV ng (.slice ao l cap) x p m z] X fun e w' => e = .returned (.bool v) ∧ Kept X w'):=avalid_any ng ao l cap x p m z v X (fun u k => K.out u (hK.trans k))
 have KV : Hid (∀ c u,Calls Tryz.prog 79 #[.int .i64 c,.int .i64 n] u fun e w' => e = .returned (.bool (val c n)) ∧ u = w'):=fun c u => valid_any c n u
 have HR : Hid (∀ u,Kept w u → Reads u b off L):=fun u k => hr.kept hb k
 clear K hr
 rw [hX] at KA
 obtain ⟨q,hq⟩ : ∃ q,q = val 0 n:=⟨_,rfl⟩
 have K0 : Hid (∀ u,Calls Tryz.prog 79 #[.int .i64 0,.int .i64 n] u fun e w' => e = .returned (.bool q) ∧ u = w'):=fun u => by rw [hq]; exact KV.out 0 u
 obtain ⟨R,hR⟩ : ∃ R,R = lkE n v L:=⟨_,rfl⟩
 have HA : Hid (R = if q = false then 3 else if v = false then 7 else if L.all (val · n) = true then 0 else 6):=(show _ = _ from by rw [hR,lkE,hq])
 rw [← hR]
 clear hq hR
 obtain ⟨N,hn⟩ : ∃ N,N = L.length:=⟨_,rfl⟩
 have HN : Hid (N = L.length):=hn
 rw [← hn] at hlen ⊢
 clear hn
 cases q
 ·go_enter Tryz.func67,Tryz.ntmps67
  go_wp2_with (first | (go_at_call 79; refine (K0.out _).mono ?_; rintro e w1 ⟨rfl,rfl⟩))
  go_ret
  exact ⟨by rw [HA.out]; rfl,hX ▸ hK⟩
 cases v
 ·go_enter Tryz.func67,Tryz.ntmps67
  go_wp2_with (first | (go_at_call 79; refine (K0.out _).mono ?_; rintro e w1 ⟨rfl,rfl⟩) | (go_at_call 40; refine KA.out.mono ?_; rintro e w1 ⟨rfl,k1⟩))
  go_ret
  exact ⟨by rw [HA.out]; rfl,hK.trans (by rw [hX]; exact k1)⟩
 go_enter Tryz.func67,Tryz.ntmps67
 go_wp2_with (first | (go_at_call 79; refine (K0.out _).mono ?_; rintro e w1 ⟨rfl,rfl⟩) | (go_at_call 40; refine KA.out.mono ?_; rintro e w1 ⟨rfl,k1⟩))
 have kw : Kept w w1:=hK.trans (by rw [hX]; exact k1)
 clear KA K0 hX hK k1
 have hr:=HR.out _ kw
 have HR1 : Hid (Reads w1 b off L):=hr
 clear HR hr
 go_loop [19] (fun i => ∃ k : Nat,k ≤ N ∧ i = .int .i64 k ∧ ∀ j,j < k → val (L.getD j 0) n = true) (fun i => N - (intOf i).toNat)
 case atStart => exact ⟨0,Nat.zero_le _,rfl,fun j h => by omega⟩
 case round =>
  obtain ⟨k,hk,rfl,hd⟩:=hrel
  have HD : Hid (∀ j,j < k → val (L.getD j 0) n = true):=hd
  clear hd
  by_cases hkn : k < N
  ·have hcell:=HR1.out k (by rw [← HN.out]; exact hkn)
   obtain ⟨d,hd⟩ : ∃ d,d = L.getD k 0:=⟨_,rfl⟩
   have HE : Hid (d = L.getD k 0):=hd
   rw [← hd] at hcell
   clear hd
   cases hv : val d n
   ·have KD : Hid (∀ u,Calls Tryz.prog 79 #[.int .i64 d,.int .i64 n] u fun e w' => e = .returned (.bool false) ∧ u = w'):=fun u => by rw [← hv]; exact KV.out d u
    go_wp2_with (first | (go_at_call 79; refine (KD.out _).mono ?_; rintro e w2 ⟨rfl,rfl⟩))
    go_ret
    exact ⟨by rw [HA.out,all_false n L k (by rw [← HN.out]; exact hkn) (by rw [← HE.out]; exact hv)]; rfl,kw⟩
   ·have KD : Hid (∀ u,Calls Tryz.prog 79 #[.int .i64 d,.int .i64 n] u fun e w' => e = .returned (.bool true) ∧ u = w'):=fun u => by rw [← hv]; exact KV.out d u
    go_wp2_with (first | (go_at_call 79; refine (KD.out _).mono ?_; rintro e w2 ⟨rfl,rfl⟩))
    go_round
    case rel =>
     refine ⟨k + 1,by omega,by go_num,fun j hj => ?_⟩
     by_cases hjk : j = k
     ·subst hjk; rw [← HE.out]; exact hv
     ·exact HD.out j (by omega)
    case measure => simp [intOf]; omega
  ·go_wp2_with fail
   go_ret
   exact ⟨by rw [HA.out,all_true n L (fun j hj => HD.out j (by have:=HN.out; omega))]; rfl,kw⟩
theorem look_any (n : Int) (ng : Bool) (M : List Int) (x : Int) (hM : Rg M) (hl : M.length < 100000000) (ao : Option Addr) (cap : Nat) (p m z : Bool) (L : List Int) (hlen : L.length < 100000000) (w : World) (h : Sl w (.slice ao M.length cap) M) (pats : Value) (hp : Sl w pats L) :
  Calls Tryz.prog 67 #[.int .i64 n,accV ng (.slice ao M.length cap) x p m z,pats] w fun e w' => e = .returned (.int .i64 (lkE n (vld ⟨ng,M,x⟩) L)) ∧ Kept w w':=by
 have K : Hid (∀ u,Kept w u → Calls Tryz.prog 89 #[.agg #[.bool ng,.slice ao M.length cap,.int .i64 x]] u fun e w' => e = .returned (.bool (vld ⟨ng,M,x⟩)) ∧ Kept u w'):=fun u k => xvalid_any ⟨ng,M,x⟩ hM hl _ u ⟨_,rfl,h.kept k⟩
 obtain ⟨po,c2,rfl,-,-,hr⟩:=hp
 by_cases hne : L = []
 ·subst hne
  exact look_nil n ng ao po M.length cap c2 x p m z _ w K
 ·obtain ⟨b,off,rfl,hb,hr⟩:=hr hne
  exact look_some n ng ao M.length cap b off c2 x p m z _ L hlen w hb hr K
def nfE (iv nv gv : Int) (p m z : Bool) : Int × Bool:=if (z || (p && m)) = true then (nv,true) else if p = true then (iv,true) else if m = true then (gv,true) else (0,false)
theorem notFinite_any (n : Int) (ng : Bool) (ao : Option Addr) (l cap : Nat) (x : Int) (p m z : Bool) (w : World) (iv nv gv : Int)
  (KI : Hid (∀ u,Calls Tryz.prog 117 #[.int .i64 9218868437227405312,.int .i64 64,.int .i64 n] u fun e w' => e = .returned (.int .i64 iv) ∧ Kept u w'))
  (KN : Hid (∀ u,Calls Tryz.prog 117 #[.int .i64 9221120237041090561,.int .i64 64,.int .i64 n] u fun e w' => e = .returned (.int .i64 nv) ∧ Kept u w'))
  (KG : Hid (∀ u,Calls Tryz.prog 25 #[.int .i64 iv,.int .i64 n] u fun e w' => e = .returned (.int .i64 gv) ∧ Kept u w')) :
  Calls Tryz.prog 71 #[accV ng (.slice ao l cap) x p m z,.int .i64 n] w fun e w' => e = .returned (.tuple #[.int .i64 (nfE iv nv gv p m z).1,.bool (nfE iv nv gv p m z).2]) ∧ Kept w w':=by
 obtain ⟨X,hX⟩ : ∃ X,X = w.alloc (.cells #[.bool ng,.slice ao l cap,.int .i64 x,.bool p,.bool m,.bool z] 26):=⟨_,rfl⟩
 have hK : Kept w X:=by rw [hX]; exact (Kept.refl w).alloc _ _
 have HC : Hid (∀ u,Kept X u → u.cell? ⟨w.heap.size,3,none⟩ = some (.bool p) ∧ u.cell? ⟨w.heap.size,4,none⟩ = some (.bool m) ∧ u.cell? ⟨w.heap.size,5,none⟩ = some (.bool z)):=fun u k => by
  have hs : X.heap.size = w.heap.size + 1:=by rw [hX]; simp
  refine ⟨?_,?_,?_⟩
  all_goals exact (k.below.cell (by rw [hs]; simp)).trans (by rw [hX]; simp [go_sem])
 obtain ⟨R1,hR1⟩ : ∃ R,R = (nfE iv nv gv p m z).1:=⟨_,rfl⟩
 obtain ⟨R2,hR2⟩ : ∃ R,R = (nfE iv nv gv p m z).2:=⟨_,rfl⟩
 have HA : Hid (R1 = (nfE iv nv gv p m z).1 ∧ R2 = (nfE iv nv gv p m z).2):=⟨hR1,hR2⟩
 rw [← hR1,← hR2]
 clear hR1 hR2
 cases p <;> cases m <;> cases z
 all_goals
  go_enter Tryz.func71,Tryz.ntmps71
  go_wp2_with fail
  rw [← hX]
  refine (KI.out _).mono ?_
  rintro e w1 ⟨rfl,k1⟩
  obtain ⟨c1,c2,c3⟩:=HC.out _ k1
  go_wp2_with (first | (go_at_call 117; refine (KN.out _).mono ?_; rintro e w2 ⟨rfl,k2⟩) | (go_at_call 25; refine (KG.out _).mono ?_; rintro e w2 ⟨rfl,k2⟩))
  obtain ⟨e1,e2⟩:=HA.out
  refine bodyPost_ret (v:=.tuple #[.int .i64 R1,.bool R2]) (by rw [e1,e2]; simp [results,Tryz.results71,go_sem,nfE]) rfl ⟨rfl,?_⟩
  first
   | exact (hK.trans k1).trans k2
   | exact hK.trans k1
end Go.Proofs.YtoflafgbbjinpaaGreatDoor
