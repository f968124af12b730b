/- Shapes, ColsGlued and RowsGlued of package tensor. -/
import Derived.Test.YtijmjnmimijfdabTG1
namespace Go.Proofs.Ytijmjnmimijfdab
open Go.ChangeShapes Go.WideShapes Go.ChangeAt Go.RowKit
set_option linter.unusedVariables false
set_option linter.unusedSimpArgs false

/-- The cells of the first i shapes. -/
def shl (i : Nat) (r c n : Nat → Int) : List Value := (List.range i).flatMap fun j => [.int .i64 (r j), .int .i64 (c j), .int .i64 (n j)]
theorem shl_succ (i : Nat) (r c n : Nat → Int) : shl (i + 1) r c n = shl i r c n ++ [.int .i64 (r i), .int .i64 (c i), .int .i64 (n i)] := by
  unfold shl
  rw [List.range_succ, List.flatMap_append]
  simp
theorem shl_length (i : Nat) (r c n : Nat → Int) : (shl i r c n).length = i * 3 := by
  induction i with
  | zero => rfl
  | succ i ih => rw [shl_succ, List.length_append, ih, Nat.succ_mul]; rfl
theorem shl_get (i : Nat) (r c n : Nat → Int) (j : Nat) (hj : j < i) : (shl i r c n)[j * 3]? = some (.int .i64 (r j)) ∧ (shl i r c n)[j * 3 + 1]? = some (.int .i64 (c j)) ∧ (shl i r c n)[j * 3 + 2]? = some (.int .i64 (n j)) := by
  induction i with
  | zero => omega
  | succ i ih =>
    rw [shl_succ]
    have hl := shl_length i r c n
    rcases Nat.lt_or_ge j i with h | h
    · obtain ⟨h0, h1, h2⟩ := ih h
      rw [List.getElem?_append_left (by omega), List.getElem?_append_left (by omega), List.getElem?_append_left (by omega)]
      exact ⟨h0, h1, h2⟩
    · obtain rfl : j = i := by omega
      rw [List.getElem?_append_right (by omega), List.getElem?_append_right (by omega), List.getElem?_append_right (by omega), hl]
      refine ⟨?_, ?_, ?_⟩
      · rw [Nat.sub_self]; rfl
      · rw [show j * 3 + 1 - j * 3 = 1 by omega]; rfl
      · rw [show j * 3 + 2 - j * 3 = 2 by omega]; rfl
theorem ls_own {u : World} {g k : Nat} {r c n : Nat → Int} (h : OwnS u g k 3 50 (shl k r c n)) : Ls u g 0 k r c n := by
  refine ⟨h.lt, fun i hi => ?_⟩
  obtain ⟨h0, h1, h2⟩ := shl_get k r c n i hi
  rw [Nat.zero_add]
  exact ⟨h.cell _ _ h0, h.cell _ _ h1, h.cell _ _ h2⟩
theorem own_put3 {u : World} {g k i : Nat} {r c n : Nat → Int} (h : OwnS u g k 3 50 (shl i r c n)) (hi : i < k) : OwnS (((u.setCell ⟨g, i * 3, none⟩ (.int .i64 (r i))).setCell ⟨g, i * 3 + 1, none⟩ (.int .i64 (c i))).setCell ⟨g, i * 3 + 2, none⟩ (.int .i64 (n i))) g k 3 50 (shl (i + 1) r c n) := by
  have hl := shl_length i r c n
  have h1 := h.push (by omega) (.int .i64 (r i))
  have h2 := h1.push (by simp; omega) (.int .i64 (c i))
  have h3 := h2.push (by simp; omega) (.int .i64 (n i))
  simp only [List.length_append, List.length_singleton, hl] at h3
  rw [shl_succ]
  simpa using h3

theorem shp_info : (Try.prog.info? 50).map (fun i => (i.zero, i.size, i.bytes)) = some (some (.agg #[.int .i64 0, .int .i64 0, .int .i64 0]), 3, 24) := by kernel_rfl
theorem shp_under : Try.prog.underlying 64 = some (.slice 50) := by kernel_rfl
theorem makeS_run (k : Nat) (hk : k ≤ 1000000) (w : World) : (Instr.makeSlice 64 (.int .i64 (k : Int)) (.int .i64 (k : Int))).run Try.prog w = .ok (.slice (some ⟨w.heap.size, 0, none⟩) k k) (w.alloc (.cells (madeCells #[.int .i64 0, .int .i64 0, .int .i64 0] (k * 3)) 50)) := by
  obtain ⟨i, hi, hz, hs, hby⟩ := info_parts shp_info
  have := run_make (P := Try.prog) w 64 50 i _ shp_under hi hz .i64 .i64 (k : Int) (k : Int) (by omega) (Int.le_refl _) (by rw [hby]; omega) (by omega)
  rw [hs, Int.toNat_natCast] at this
  exact this
theorem ownS_made (k : Nat) (hk : k ≤ 1000000) (r c n : Nat → Int) (w : World) : OwnS (w.alloc (.cells (madeCells #[.int .i64 0, .int .i64 0, .int .i64 0] (k * 3)) 50)) w.heap.size k 3 50 (shl 0 r c n) :=
  ⟨_, heap_alloc_new w _, by simp [shl], by simp [maxLen]; omega, by simp [size_madeCells], by simp [shl]⟩

set_option maxHeartbeats 4000000 in
set_option maxRecDepth 100000 in
theorem shapes_any (B off k lc : Nat) (hk : k ≤ 1000000) (r c n : Nat → Int) (a : Nat → Option Addr) (cap : Nat → Nat) (L : Nat → List Int) (w : World) (hM : Lm w B off k r c n a cap L) :
    Calls Try.prog 47 #[.slice (some ⟨B, off, none⟩) k lc] w fun e w' => ∃ g, e = .returned (.slice (some ⟨g, 0, none⟩) k k) ∧ Ls w' g 0 k r c n ∧ Kept w w' := by
  have hm := makeS_run k hk w
  have ho := ownS_made k hk r c n w
  have hK0 : Kept w (w.alloc (.cells (madeCells #[.int .i64 0, .int .i64 0, .int .i64 0] (k * 3)) 50)) := (Kept.refl w).alloc _ _
  obtain ⟨X, hX⟩ : ∃ X, X = w.alloc (.cells (madeCells #[.int .i64 0, .int .i64 0, .int .i64 0] (k * 3)) 50) := ⟨_, rfl⟩
  rw [← hX] at hm ho hK0
  clear hX
  have hBl := hM.lt
  have HM : Hid (∀ u, Kept w u → Lm u B off k r c n a cap L) := fun u kk => hM.bl kk.bl
  have KA : Hid (∀ i u, Calls Try.prog 31 #[.agg #[.int .i64 (r i), .int .i64 (c i), .int .i64 (n i), .slice (a i) (L i).length (cap i)]] u fun e w' => e = .returned (.agg #[.int .i64 (r i), .int .i64 (c i), .int .i64 (n i)]) ∧ Kept u w') := fun i u => shapeOf_any _ _ _ _ u
  clear hM
  go_enter Try.func47, Try.ntmps47
  go_wp2_with fail
  clear hm
  go_loopw [11] (fun iv wr => ∃ i : Nat, i ≤ k ∧ iv = .int .i64 i ∧ Kept w wr ∧ OwnS wr w.heap.size k 3 50 (shl i r c n)) (fun iv _ => k - (intOf iv).toNat)
  case atStart => exact ⟨0, Nat.zero_le _, rfl, hK0, ho⟩
  case round =>
    obtain ⟨i, hi, rfl, kr, hO⟩ := hrel
    clear ho hK0
    by_cases hik : i < k
    · obtain ⟨c0, c1, c2, c3⟩ := (HM.out wr kr).rd i hik
      have z0 : IntKind.i64.wrap ((i : Int) + 1) = (i : Int) + 1 := by rw [wrap_i64]; omega
      have KA2 := KA.out i
      have HK : Hid _ := KA2
      have HO : Hid (∀ u, Kept wr u → OwnS u w.heap.size k 3 50 (shl i r c n)) := fun u kk => hO.kept kk
      clear KA KA2 HM hO
      have hsz := kr.below.size
      generalize (L i).length = li at *
      go_wp2_with (first | (go_at_call 31; refine (HK.out _).mono ?_; rintro e w5 ⟨rfl, k5⟩; have k5' := ((Kept.refl wr).alloc _ _).trans k5; have hO5 := HO.out _ k5'; have s0 := hO5.some (i * 3) (by omega); have s1 := hO5.some (i * 3 + 1) (by omega); have s2 := hO5.some (i * 3 + 2) (by omega); obtain ⟨v0, s0⟩ := Option.isSome_iff_exists.1 s0; obtain ⟨v1, s1⟩ := Option.isSome_iff_exists.1 s1; obtain ⟨v2, s2⟩ := Option.isSome_iff_exists.1 s2; have f0 := hO5.free (i * 3); have f1 := hO5.free (i * 3 + 1); have f2 := hO5.free (i * 3 + 2)))
      go_roundw
      case rel => exact ⟨i + 1, by omega, by go_num, (((kr.trans k5').setCell (by simp) _).setCell (by simp) _).setCell (by simp) _, own_put3 hO5 hik⟩
      case measure => simp [intOf]; omega
    · obtain rfl : i = k := by omega
      have hL := ls_own hO
      go_wp2_with fail
      go_ret
      exact ⟨_, rfl, hL, kr⟩
end Go.Proofs.Ytijmjnmimijfdab
