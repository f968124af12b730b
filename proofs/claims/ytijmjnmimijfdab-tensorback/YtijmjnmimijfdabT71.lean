/- Convert of package tensor. -/
import Derived.Test.YtijmjnmimijfdabT70
import Derived.Test.YtijmjnmimijfdabT5
import Derived.Test.YtijmjnmimijfdabTE
namespace Go.Proofs.Ytijmjnmimijfdab
open Go.ChangeShapes Go.WideShapes Go.ChangeAt Go.RowKit
set_option linter.unusedVariables false
set_option linter.unusedSimpArgs false

/-- The first i elements turned, noughts behind them. -/
def cvl (F : Nat → Int) (i : Nat) (j : Nat) : Int := if j < i then F j else 0
theorem cvl_step (F : Nat → Int) (l i : Nat) : (lst l (cvl F i)).set i (F i) = lst l (cvl F (i + 1)) := by
  rw [lst_set]
  apply lst_ext
  intro j hj
  unfold cvl
  by_cases h : j = i
  · rw [if_pos h, h, if_pos (by omega)]
  · rw [if_neg h]
    by_cases h2 : j < i
    · rw [if_pos h2, if_pos (by omega)]
    · rw [if_neg h2, if_neg (by omega)]
theorem cvl_all (F : Nat → Int) (l : Nat) : lst l (cvl F l) = lst l F := by
  apply lst_ext
  intro j hj
  unfold cvl
  rw [if_pos hj]
theorem cvl_none (F : Nat → Int) (l : Nat) : lst l (cvl F 0) = List.replicate l 0 := by
  rw [← lst_zero]
  apply lst_ext
  intro j hj
  simp [cvl]

set_option maxHeartbeats 4000000 in
set_option maxRecDepth 100000 in
theorem tconvert_ok (r c n d : Int) (hd : d = 64 ∨ d = 32) (M : List Int) (hML : M.length ≤ 100000) (F : Nat → Int) (hf : ∀ i, i < M.length → ∀ u, Calls Try.prog 29 #[.int .i64 (M.getD i 0), .int .i64 n, .int .i64 d] u fun e w' => e = .returned (.int .i64 (F i)) ∧ Kept u w') (hfr : Rgl (lst M.length F)) (hck : ckM r c n M = 0) (b off cap : Nat) (w : World) (hb : b < w.heap.size) (hrd : Reads w b off M) (hSl : Sl w (.slice (some ⟨b, off, none⟩) M.length cap) M) :
    Calls Try.prog 8 #[.agg #[.int .i64 r, .int .i64 c, .int .i64 n, .slice (some ⟨b, off, none⟩) M.length cap], .int .i64 d] w fun e w' => ∃ g, e = .returned (.tuple #[.agg #[.int .i64 r, .int .i64 c, .int .i64 d, .slice (some ⟨g, 0, none⟩) M.length M.length], .int .i64 0]) ∧ w.heap.size ≤ g ∧ Own w' g M.length ((lst M.length F).map (cln · d)) ∧ Kept w w' := by
  obtain ⟨X, hX⟩ : ∃ X, X = (w.alloc (.cells #[.int .i64 r, .int .i64 c, .int .i64 n, .slice (some ⟨b, off, none⟩) M.length cap] 24)).alloc (.cells #[.int .i64 0, .int .i64 0, .int .i64 0, .slice none 0 0] 24) := ⟨_, rfl⟩
  have hKX : Kept w X := by rw [hX]; exact ((Kept.refl w).alloc _ _).alloc _ _
  have hXs : X.heap.size = w.heap.size + 2 := by rw [hX]; simp
  have hmX : M4 X w.heap.size (.int .i64 r) (.int .i64 c) (.int .i64 n) (.slice (some ⟨b, off, none⟩) M.length cap) := by rw [hX]; exact ⟨by simp [go_sem], by simp [go_sem], by simp [go_sem], by simp [go_sem]⟩
  have hrX : M4 X (w.heap.size + 1) (.int .i64 0) (.int .i64 0) (.int .i64 0) (.slice none 0 0) := by rw [hX]; exact ⟨by simp [go_sem], by simp [go_sem], by simp [go_sem], by simp [go_sem]⟩
  have hfX : Hid (∀ o, X.frozen? ⟨w.heap.size + 1, o, none⟩ = false) := fun o => by rw [hX]; simp [go_sem]
  have KC : Hid (Calls Try.prog 17 #[.agg #[.int .i64 r, .int .i64 c, .int .i64 n, .slice (some ⟨b, off, none⟩) M.length cap]] X fun e w' => e = .returned (.int .i64 0) ∧ Kept X w') := by
    have := check_any r c n (some ⟨b, off, none⟩) cap M X (hSl.kept hKX)
    rw [hck] at this
    exact this
  have KV : Hid (∀ u, Calls Try.prog 28 #[.int .i64 0, .int .i64 d] u fun e w' => e = .returned (.bool true) ∧ u = w') := fun u => by have := valid_any 0 d u; rw [val_0, decide_eq_true hd] at this; exact this
  have HF : Hid (∀ i, i < M.length → ∀ u, Calls Try.prog 29 #[.int .i64 (M.getD i 0), .int .i64 n, .int .i64 d] u fun e w' => e = .returned (.int .i64 (F i)) ∧ Kept u w') := hf
  have HRD : Hid (∀ u, Kept X u → ∀ i, i < M.length → u.cell? ⟨b, off + i, none⟩ = some (.int .i64 (M.getD i 0))) := fun u ku i hi => hrd.kept hb (hKX.trans ku) i hi
  have HST : Hid (∀ i, (lst M.length (cvl F i)).set i (F i) = lst M.length (cvl F (i + 1))) := fun i => cvl_step F M.length i
  have HAL : Hid (lst M.length (cvl F M.length) = lst M.length F) := cvl_all F M.length
  have HRG : Hid (Rgl (lst M.length F)) := hfr
  have hmk : ∀ u : World, (Instr.makeSlice 22 (.int .i64 (M.length : Int)) (.int .i64 (M.length : Int))).run Try.prog u = .ok (.slice (some ⟨u.heap.size, 0, none⟩) M.length M.length) (u.alloc (.cells (madeCells #[.int .i64 0] M.length) 3)) := fun u => make_run _ _ (Nat.le_refl _) (by omega) u
  have HO : Hid (∀ u : World, Own (u.alloc (.cells (madeCells #[.int .i64 0] M.length) 3)) u.heap.size M.length (lst M.length (cvl F 0))) := fun u => by rw [cvl_none]; exact own_made _ _ (Nat.le_refl _) (by omega) u
  have HLN : Hid (∀ i, (lst M.length (cvl F i)).length = M.length) := fun i => lst_length _ _
  have hml : (lst M.length F).length = M.length := lst_length _ _
  clear hck hrd hSl hf hfr
  generalize hl : M.length = l at *
  go_enter Try.func8, Try.ntmps8
  go_upto_region 1 with fail
  rw [← hX]
  clear hX
  have hmX' := hmX
  obtain ⟨m0, m1, m2, m3⟩ := hmX'
  go_upto_region 4 with (first | (go_at_call 17; refine (KC.out).mono ?_; rintro e w1 ⟨rfl, k1⟩))
  go_upto_region 6 with (first | (go_at_call 28; refine (KV.out _).mono ?_; rintro e w2 ⟨rfl, rfl⟩))
  clear m0 m1 m2 m3 KC KV
  obtain ⟨m0, m1, m2, m3⟩ := hmX.bl k1.bl
  go_upto_region 7 with fail
  clear hmk
  obtain ⟨Y, hY⟩ : ∃ Y, Y = w1.alloc (.cells (madeCells #[.int .i64 0] l) 3) := ⟨_, rfl⟩
  rw [← hY]
  have hoY : Own Y w1.heap.size l (lst l (cvl F 0)) := by rw [hY]; exact HO.out w1
  have kY : Kept w1 Y := by rw [hY]; exact (Kept.refl _).alloc _ _
  have hs1 : X.heap.size ≤ w1.heap.size := k1.below.size
  have kXY : Kept X Y := k1.trans kY
  clear hY m0 m1 m2 m3 HO k1
  generalize w1.heap.size = g at *
  obtain ⟨m0, m1, m2, m3⟩ := hmX.bl kXY.bl
  go_wp2_with fail
  go_loopw [27] (fun iv wr => ∃ i : Nat, i ≤ l ∧ iv = .int .i64 i ∧ Own wr g l (lst l (cvl F i)) ∧ Kept X wr) (fun iv _ => l - (intOf iv).toNat)
  case atStart => exact ⟨0, Nat.zero_le _, rfl, hoY, kXY⟩
  case round =>
    clear m0 m1 m2 m3
    obtain ⟨i, hi, rfl, hO, kr⟩ := hrel
    obtain ⟨m0, m1, m2, m3⟩ := hmX.bl kr.bl
    by_cases hil : i < l
    · have q0 := HRD.out wr kr i hil
      have z0 : IntKind.i64.wrap ((i : Int) + 1) = (i : Int) + 1 := by rw [wrap_i64]; omega
      have HFi : Hid _ := HF.out i hil
      have HN : Hid (∀ u, Kept wr u → (∃ x, u.cell? ⟨g, i, none⟩ = some x) ∧ u.frozen? ⟨g, i, none⟩ = false ∧ Own (u.setCell ⟨g, i, none⟩ (.int .i64 (F i))) g l (lst l (cvl F (i + 1)))) := fun u ku => by
        have h1 := hO.kept ku
        refine ⟨⟨_, h1.cell i (by rw [HLN.out]; exact hil)⟩, h1.free i, ?_⟩
        have := h1.set i (F i)
        rwa [HST.out] at this
      clear HF HRD HST HAL HRG hO HLN
      generalize M.getD i 0 = x at *
      generalize F i = y at *
      go_wp2_with (first | (go_at_call 29; refine (HFi.out _).mono ?_; rintro e w3 ⟨rfl, k3⟩; obtain ⟨⟨vx, v0⟩, v1, v2⟩ := HN.out _ k3; have HV : Hid _ := v2; clear v2))
      go_roundw
      case rel => exact ⟨i + 1, by omega, by go_num, HV.out, (kr.trans k3).setCell (by simp; omega) _⟩
      case measure => simp [intOf]; omega
    · obtain rfl : i = l := by omega
      rw [HAL.out] at hO
      have KM : Hid (Calls Try.prog 30 #[.agg #[.int .i64 r, .int .i64 c, .int .i64 d], .slice (some ⟨g, 0, none⟩) i i] wr fun e w' => e = .returned (.agg #[.int .i64 r, .int .i64 c, .int .i64 d, .slice (some ⟨g, 0, none⟩) i i]) ∧ Own w' g i ((lst i F).map (cln · d)) ∧ Kept X w') := by
        have := matrix_any r c d hd (lst i F) HRG.out (by omega) g i wr hO
        rw [hml] at this
        refine this.mono ?_
        rintro e w' ⟨rfl, h1, h2⟩
        exact ⟨rfl, h1, kr.grw (by omega) h2⟩
      clear HF HRD HST HAL HRG hO HLN
      go_wp2_with (first | (go_at_call 30; refine (KM.out).mono ?_; rintro x u6 ⟨rfl, hO4, hk6⟩; have hr4 := hrX.bl hk6.bl; have f4 : ∀ o, u6.frozen? ⟨w.heap.size + 1, o, none⟩ = false := fun o => (hk6.frozen _).trans (hfX.out o); obtain ⟨p0, p1, p2, p3⟩ := res4 u6 _ _ _ _ _ hr4 (.int .i64 r) (.int .i64 c) (.int .i64 d) (.slice (some ⟨g, 0, none⟩) i i); obtain ⟨r0, r1, r2, r3⟩ := hr4))
      have hO5 := (((hO4.setOther (p := ⟨w.heap.size + 1, 0, none⟩) (by simp; omega) (.int .i64 r)).setOther (p := ⟨w.heap.size + 1, 1, none⟩) (by simp; omega) (.int .i64 c)).setOther (p := ⟨w.heap.size + 1, 2, none⟩) (by simp; omega) (.int .i64 d)).setOther (p := ⟨w.heap.size + 1, 3, none⟩) (by simp; omega) (.slice (some ⟨g, 0, none⟩) i i)
      have hk5 := (((hKX.trans hk6).setCell (p := ⟨w.heap.size + 1, 0, none⟩) (by simp) (.int .i64 r)).setCell (p := ⟨w.heap.size + 1, 1, none⟩) (by simp) (.int .i64 c)).setCell (p := ⟨w.heap.size + 1, 2, none⟩) (by simp) (.int .i64 d) |>.setCell (p := ⟨w.heap.size + 1, 3, none⟩) (by simp) (.slice (some ⟨g, 0, none⟩) i i)
      exact bodyPost_ret (v := .tuple #[.agg #[.int .i64 r, .int .i64 c, .int .i64 d, .slice (some ⟨g, 0, none⟩) i i], .int .i64 0]) (by simp [results, Try.results8, go_sem, *]) rfl ⟨g, rfl, by omega, hO5, hk5⟩
end Go.Proofs.Ytijmjnmimijfdab
