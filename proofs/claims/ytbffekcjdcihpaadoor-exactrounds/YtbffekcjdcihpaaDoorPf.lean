/- The walks of the laws' own Same and SameNum at what is the same. The walk of exact's Quot at 1 by 3. A few values: 6 by 2, 1, 3, and 1 - 3. The walk of the laws' own test of life. Rows of the call's own whose cells may be of any type; append to them. The laws' own Num: some digits' low bits, an exponent brought to within a bound. Plain: the digits of a number, one by one: what the document's own NatAdd, NatSub, NatShl, NatShr, NatLow make. The walks of the document's own trim and NatLow. -/
import Derived.Test.YtbffekcjdcihpaaDoorPa
import Derived.Test.YtbffekcjdcihpaaDoorPc
import Derived.Test.YtbffekcjdcihpaaDoorQ4
import Derived.Test.YtbffekcjdcihpaaDoorQ6
import Derived.Deep.Cut
import Derived.Deep.AppendSrc
import Derived.Deep.Upon
namespace Go.Proofs.YtbffekcjdcihpaaDoor
open Go.ChangeShapes Go.WideShapes Go.ChangeAt Go.RowKit
set_option linter.unusedVariables false
set_option linter.unusedSimpArgs false

set_option maxHeartbeats 400000 in
theorem same_nil (a b : Option Addr) (c d : Nat) (w : World) : Calls Tryd.prog 33 #[.slice a 0 c, .slice b 0 d] w fun e w' => e = .returned (.bool true) ∧ Kept w w' := by
  go_enter Tryd.func33, Tryd.ntmps33
  go_wp2
  refine wp_loop_rounds 1 ?_
  rw [rounds_succ]
  go_wp2
  go_ret
  exact ⟨rfl, Kept.refl _⟩

set_option maxHeartbeats 1000000 in
set_option maxRecDepth 100000 in
theorem same_some (L : List Int) (hlen : L.length < 100000000) (b1 o1 c1 b2 o2 c2 : Nat) (w : World) (hb1 : b1 < w.heap.size) (hb2 : b2 < w.heap.size) (h1 : Reads w b1 o1 L) (h2 : Reads w b2 o2 L) : Calls Tryd.prog 33 #[.slice (some ⟨b1, o1, none⟩) L.length c1, .slice (some ⟨b2, o2, none⟩) L.length c2] w fun e w' => e = .returned (.bool true) ∧ Kept w w' := by
  have H1 : Hid (∀ u, Kept w u → Reads u b1 o1 L) := fun u k => h1.kept hb1 k
  have H2 : Hid (∀ u, Kept w u → Reads u b2 o2 L) := fun u k => h2.kept hb2 k
  obtain ⟨n, hn⟩ : ∃ n, n = L.length := ⟨_, rfl⟩
  have HN : Hid (n = L.length) := hn
  rw [← hn] at hlen ⊢
  clear h1 h2 hn hb1 hb2
  go_enter Tryd.func33, Tryd.ntmps33
  go_wp2
  go_loopw [5] (fun i wr => ∃ k : Nat, k ≤ n ∧ i = .int .i64 k ∧ Kept w wr) (fun i _ => n - (intOf i).toNat)
  case atStart => exact ⟨0, Nat.zero_le _, rfl, Kept.refl _⟩
  case round =>
    obtain ⟨k, hk, rfl, hK⟩ := hrel
    by_cases hkn : k < n
    · have c1 := H1.out _ hK k (by rw [← HN.out]; exact hkn)
      have c2 := H2.out _ hK k (by rw [← HN.out]; exact hkn)
      generalize L.getD k 0 = d at c1 c2
      have hdd : (d != d) = false := by simp
      go_wp2
      go_quiet (fail)
      go_wp2
      go_roundw
      case rel => exact ⟨k + 1, by omega, by go_num, hK.drewN _⟩
      case measure => simp [intOf]; omega
    · obtain rfl : k = n := by omega
      go_wp2
      go_ret
      exact ⟨rfl, hK⟩

theorem same_true (L : List Int) (hlen : L.length < 100000000) (u v : Value) (w : World) (h1 : Sl w u L) (h2 : Sl w v L) : Calls Tryd.prog 33 #[u, v] w fun e w' => e = .returned (.bool true) ∧ Kept w w' := by
  obtain ⟨a, c, rfl, -, -, r1⟩ := h1
  obtain ⟨b, d, rfl, -, -, r2⟩ := h2
  by_cases hne : L = []
  · subst hne; exact same_nil a b c d w
  · obtain ⟨b1, o1, rfl, hb1, r1⟩ := r1 hne
    obtain ⟨b2, o2, rfl, hb2, r2⟩ := r2 hne
    exact same_some L hlen b1 o1 c b2 o2 d w hb1 hb2 r1 r2

set_option maxHeartbeats 1000000 in
set_option maxRecDepth 100000 in
theorem sameNum_true (x : Nm) (hlen : x.mag.length < 100000000) (u v : Value) (w : World) (h1 : NumAt w u x) (h2 : NumAt w v x) : Calls Tryd.prog 10 #[u, v] w fun e w' => e = .returned (.bool true) ∧ Kept w w' := by
  obtain ⟨s, rfl, a, c, rfl, z1, z2, r1⟩ := h1
  obtain ⟨t, rfl, b, d, rfl, z3, z4, r2⟩ := h2
  obtain ⟨neg, L, e⟩ := x
  dsimp only at *
  have hK := ((Kept.refl w).alloc #[.bool neg, .slice a L.length c, .int .i64 e] 24).alloc #[.bool neg, .slice b L.length d, .int .i64 e] 24
  have KS : Hid (∀ u, Kept w u → Calls Tryd.prog 33 #[.slice a L.length c, .slice b L.length d] u fun e w' => e = .returned (.bool true) ∧ Kept u w') := fun u k => same_true L hlen _ _ u (Sl.kept ⟨a, c, rfl, z1, z2, r1⟩ k) (Sl.kept ⟨b, d, rfl, z3, z4, r2⟩ k)
  clear z1 z2 z3 z4 r1 r2
  generalize L.length = n at *
  have hee : (e == e) = true := by simp
  have hnn : (neg == neg) = true := by simp
  go_enter Tryd.func10, Tryd.ntmps10
  go_wp2_with (first | (go_at_call 33; refine (KS.out _ hK).mono ?_; rintro e w1 ⟨rfl, hk1⟩))
  go_ret
  exact ⟨rfl, hK.trans hk1⟩
end Go.Proofs.YtbffekcjdcihpaaDoor

namespace Go.Proofs.YtbffekcjdcihpaaDoor
open Go.ChangeShapes Go.WideShapes Go.ChangeAt Go.RowKit
set_option linter.unusedVariables false
set_option linter.unusedSimpArgs false

theorem vld1 : vld ⟨false, [1], 0⟩ = true := by decide +kernel
theorem vld3 : vld ⟨false, [3], 0⟩ = true := by decide +kernel

set_option maxHeartbeats 4000000 in
set_option maxRecDepth 100000 in
theorem quot_third (a b : Option Addr) (c d : Nat) (w : World) (h1 : Sl w (.slice a 1 c) [1]) (h2 : Sl w (.slice b 1 d) [3]) (hT : Tab w) : Calls Tryd.prog 9 #[.agg #[.bool false, .slice a 1 c, .int .i64 0], .agg #[.bool false, .slice b 1 d, .int .i64 0], .int .i64 64, .int .i64 0] w fun e w' => e = .returned (.tuple #[.int .i64 4599676419421066581, .bool true, .int .i64 0]) ∧ Kept w w' := by
  have hK : Kept w (((w.alloc (.cells #[.bool false, .slice a 1 c, .int .i64 0] 24)).alloc (.cells #[.bool false, .slice b 1 d, .int .i64 0] 24)).alloc (.cells (pairC false (.slice a 1 c) 0 false (.slice b 1 d) 0) 24)) := (((Kept.refl w).alloc _ _).alloc _ _).alloc _ _
  have KR : Hid (Calls Tryd.prog 29 #[.int .i64 64, .int .i64 0, .slice (some ⟨w.heap.size + 2, 0, none⟩) 2 2] (((w.alloc (.cells #[.bool false, .slice a 1 c, .int .i64 0] 24)).alloc (.cells #[.bool false, .slice b 1 d, .int .i64 0] 24)).alloc (.cells (pairC false (.slice a 1 c) 0 false (.slice b 1 d) 0) 24)) fun e w' => e = .returned (.tuple #[round64, .int .i64 0]) ∧ Kept (((w.alloc (.cells #[.bool false, .slice a 1 c, .int .i64 0] 24)).alloc (.cells #[.bool false, .slice b 1 d, .int .i64 0] 24)).alloc (.cells (pairC false (.slice a 1 c) 0 false (.slice b 1 d) 0) 24)) w') := by
    refine roundingOf_64 _ _ (fun u k => ?_)
    have hb : w.heap.size + 2 < (((w.alloc (.cells #[.bool false, .slice a 1 c, .int .i64 0] 24)).alloc (.cells #[.bool false, .slice b 1 d, .int .i64 0] 24)).alloc (.cells (pairC false (.slice a 1 c) 0 false (.slice b 1 d) 0) 24)).heap.size := by simp
    have := allValid_2 u (w.heap.size + 2) 2 false false a b 1 c 1 d 0 0 true true (Nat.lt_of_lt_of_le hb k.below.size) ((k.below.cell (p := ⟨w.heap.size + 2, 0, none⟩) hb).trans (by simp [go_sem])) ((k.below.cell (p := ⟨w.heap.size + 2, 1, none⟩) hb).trans (by simp [go_sem])) ((k.below.cell (p := ⟨w.heap.size + 2, 2, none⟩) hb).trans (by simp [go_sem])) ((k.below.cell (p := ⟨w.heap.size + 2, 3, none⟩) hb).trans (by simp [go_sem])) ((k.below.cell (p := ⟨w.heap.size + 2, 4, none⟩) hb).trans (by simp [go_sem])) ((k.below.cell (p := ⟨w.heap.size + 2, 5, none⟩) hb).trans (by simp [go_sem])) (fun v kv => ?_) (fun v kv => ?_)
    · exact this
    · have := xvalid_any ⟨false, [1], 0⟩ (Dg.rg (Dg.cons (by decide) (by decide) Dg.nil)) (by decide) (.agg #[.bool false, .slice a 1 c, .int .i64 0]) v ⟨_, rfl, ((h1.kept hK).kept k).kept kv⟩
      rw [vld1] at this
      exact this
    · have := xvalid_any ⟨false, [3], 0⟩ (Dg.rg (Dg.cons (by decide) (by decide) Dg.nil)) (by decide) (.agg #[.bool false, .slice b 1 d, .int .i64 0]) v ⟨_, rfl, ((h2.kept hK).kept k).kept kv⟩
      rw [vld3] at this
      exact this
  have KQ : Hid (∀ u, Kept w u → Calls Tryd.prog 32 #[.agg #[.bool false, .slice a 1 c, .int .i64 0], .agg #[.bool false, .slice b 1 d, .int .i64 0]] u fun e w' => e = .returned third ∧ Kept u w') := fun u k => quotient_third a b c d u (h1.kept k) (h2.kept k)
  have HT : Hid (Tab w) := hT
  clear h1 h2 hT
  go_enter Tryd.func9, Tryd.ntmps9
  go_wp2_with fail
  refine KR.out.mono ?_
  rintro e w1 ⟨rfl, hk1⟩
  have HS : Hid (∀ u, Kept (w1.alloc (.cells #[.int .i64 64, .int .i64 53, .int .i64 (-1074), .int .i64 9218868437227405312, .func (.func 69) #[] #[]] 59)) u → u.cell? ⟨w1.heap.size, 0, none⟩ = some (.int .i64 64) ∧ u.cell? ⟨w1.heap.size, 1, none⟩ = some (.int .i64 53) ∧ u.cell? ⟨w1.heap.size, 2, none⟩ = some (.int .i64 (-1074)) ∧ u.cell? ⟨w1.heap.size, 3, none⟩ = some (.int .i64 9218868437227405312) ∧ u.cell? ⟨w1.heap.size, 4, none⟩ = some (.func (.func 69) #[] #[]) ∧ u.cell? ⟨w.heap.size, 0, none⟩ = some (.bool false) ∧ u.cell? ⟨w.heap.size, 1, none⟩ = some (.slice a 1 c) ∧ u.cell? ⟨w.heap.size, 2, none⟩ = some (.int .i64 0) ∧ u.cell? ⟨w.heap.size + 1, 0, none⟩ = some (.bool false) ∧ u.cell? ⟨w.heap.size + 1, 1, none⟩ = some (.slice b 1 d) ∧ u.cell? ⟨w.heap.size + 1, 2, none⟩ = some (.int .i64 0)) := fun u k => ⟨(laid_cell k 0).trans (by simp [go_sem]), (laid_cell k 1).trans (by simp [go_sem]), (laid_cell k 2).trans (by simp [go_sem]), (laid_cell k 3).trans (by simp [go_sem]), (laid_cell k 4).trans (by simp [go_sem]), ((hk1.trans ((Kept.refl w1).alloc _ _ |>.trans k)).below.cell (p := ⟨w.heap.size, 0, none⟩) (by simp <;> omega)).trans (by simp [go_sem]), ((hk1.trans ((Kept.refl w1).alloc _ _ |>.trans k)).below.cell (p := ⟨w.heap.size, 1, none⟩) (by simp <;> omega)).trans (by simp [go_sem]), ((hk1.trans ((Kept.refl w1).alloc _ _ |>.trans k)).below.cell (p := ⟨w.heap.size, 2, none⟩) (by simp <;> omega)).trans (by simp [go_sem]), ((hk1.trans ((Kept.refl w1).alloc _ _ |>.trans k)).below.cell (p := ⟨w.heap.size + 1, 0, none⟩) (by simp <;> omega)).trans (by simp [go_sem]), ((hk1.trans ((Kept.refl w1).alloc _ _ |>.trans k)).below.cell (p := ⟨w.heap.size + 1, 1, none⟩) (by simp <;> omega)).trans (by simp [go_sem]), ((hk1.trans ((Kept.refl w1).alloc _ _ |>.trans k)).below.cell (p := ⟨w.heap.size + 1, 2, none⟩) (by simp <;> omega)).trans (by simp [go_sem])⟩
  have hsz : w.heap.size + 3 ≤ w1.heap.size := by have := hk1.below.size; simpa using this
  have s0 := HS.out _ (Kept.refl _)
  obtain ⟨x0, x1, x2, x3, x4, x5, x6, x7, x8, x9, xx⟩ := s0
  go_wp2_with fail
  refine (signOf_any false b 1 d 0 _).mono ?_
  rintro e w2 ⟨rfl, hk2⟩
  have s1 := HS.out _ hk2
  clear x0 x1 x2 x3 x4 x5 x6 x7 x8 x9 xx
  have hkk : Kept w w2 := hK.trans (hk1.trans (((Kept.refl w1).alloc _ _).trans hk2))
  go_wp2
  refine wp_region_held_drew (S := fun u => u.cell? ⟨w1.heap.size, 0, none⟩ = some (.int .i64 64) ∧ u.cell? ⟨w1.heap.size, 1, none⟩ = some (.int .i64 53) ∧ u.cell? ⟨w1.heap.size, 2, none⟩ = some (.int .i64 (-1074)) ∧ u.cell? ⟨w1.heap.size, 3, none⟩ = some (.int .i64 9218868437227405312) ∧ u.cell? ⟨w1.heap.size, 4, none⟩ = some (.func (.func 69) #[] #[]) ∧ u.cell? ⟨w.heap.size, 0, none⟩ = some (.bool false) ∧ u.cell? ⟨w.heap.size, 1, none⟩ = some (.slice a 1 c) ∧ u.cell? ⟨w.heap.size, 2, none⟩ = some (.int .i64 0) ∧ u.cell? ⟨w.heap.size + 1, 0, none⟩ = some (.bool false) ∧ u.cell? ⟨w.heap.size + 1, 1, none⟩ = some (.slice b 1 d) ∧ u.cell? ⟨w.heap.size + 1, 2, none⟩ = some (.int .i64 0)) (by kernel_rfl) (HS.out _ hk2.drew) (fun hHeld => ?_)
  refine wpAnyH_take (i := 0) (v := ?_) rfl (by kernel_rfl) (by kernel_rfl) (by kernel_rfl) (fun _ _ _ h => h) (Or.inl ⟨by rfl, ?hya0⟩) (by assumption) ?_
  case hya0 => (intro w hSw; (try dsimp only at hSw); go_simp; try (with_reducible rfl))
  simp only [Act.put, List.getElem_toArray, List.getElem_cons_succ, List.getElem_cons_zero, List.setIfInBounds_toArray, List.set_cons_zero, List.set_cons_succ]
  refine wpAnyH_take (i := 1) (v := ?_) rfl (by kernel_rfl) (by kernel_rfl) (by kernel_rfl) (fun _ _ _ h => h) (Or.inl ⟨by rfl, ?hya1⟩) (by assumption) ?_
  case hya1 => (intro w hSw; (try dsimp only at hSw); go_simp; try (with_reducible rfl))
  simp only [Act.put, List.getElem_toArray, List.getElem_cons_succ, List.getElem_cons_zero, List.setIfInBounds_toArray, List.set_cons_zero, List.set_cons_succ]
  refine wpAnyH_take (i := 2) (v := ?_) rfl (by kernel_rfl) (by kernel_rfl) (by kernel_rfl) (fun _ _ _ h => h) (Or.inl ⟨by rfl, ?hya2⟩) (by assumption) ?_
  case hya2 => (intro w hSw; (try dsimp only at hSw); go_simp; try (with_reducible rfl))
  simp only [Act.put, List.getElem_toArray, List.getElem_cons_succ, List.getElem_cons_zero, List.setIfInBounds_toArray, List.set_cons_zero, List.set_cons_succ]
  refine wpAnyH_ready (rs := [3]) (by kernel_rfl) (by simp) ?_
  refine AllReadyH.cons rfl (fun K hK9 => ?_) AllReadyH.nil
  go_simp
  go_wp2_with (first | (go_at_call 32; refine (KQ.out _ hkk.drew).mono ?_; rintro e w3 ⟨rfl, hk3⟩))
  refine hK9.out _ _ (HS.out _ (hk2.drew.trans hk3)) (fun hHeld2 => ?_)
  clear hK9 K hHeld
  refine wpAnyH_ready (rs := [4]) (by kernel_rfl) (by simp) ?_
  refine AllReadyH.cons rfl (fun K hK9 => ?_) AllReadyH.nil
  go_simp
  go_wp2_with (first | (go_at_call 31; refine (round_third _ (HT.out.kept (hkk.drew.trans hk3))).mono ?_; rintro e w4 ⟨rfl, hk4⟩))
  refine hK9.out _ _ (HS.out _ (hk2.drew.trans (hk3.trans hk4))) (fun hHeld => ?_)
  clear hK9 K hHeld2
  refine wpAnyH_take (i := 5) (v := ?_) rfl (by kernel_rfl) (by kernel_rfl) (by kernel_rfl) (fun _ _ _ h => h) (Or.inl ⟨by rfl, ?hyb5⟩) (by assumption) ?_
  case hyb5 => (intro w hSw; (try dsimp only at hSw); go_simp; try (with_reducible rfl))
  simp only [Act.put, List.getElem_toArray, List.getElem_cons_succ, List.getElem_cons_zero, List.setIfInBounds_toArray, List.set_cons_zero, List.set_cons_succ]
  refine wpAnyH_take (i := 6) (v := ?_) rfl (by kernel_rfl) (by kernel_rfl) (by kernel_rfl) (fun _ _ _ h => h) (Or.inl ⟨by rfl, ?hyb6⟩) (by assumption) ?_
  case hyb6 => (intro w hSw; (try dsimp only at hSw); go_simp; try (with_reducible rfl))
  simp only [Act.put, List.getElem_toArray, List.getElem_cons_succ, List.getElem_cons_zero, List.setIfInBounds_toArray, List.set_cons_zero, List.set_cons_succ]
  refine wpAnyH_take (i := 7) (v := ?_) rfl (by kernel_rfl) (by kernel_rfl) (by kernel_rfl) (fun _ _ _ h => h) (Or.inl ⟨by rfl, ?hyb7⟩) (by assumption) ?_
  case hyb7 => (intro w hSw; (try dsimp only at hSw); go_simp; try (with_reducible rfl))
  simp only [Act.put, List.getElem_toArray, List.getElem_cons_succ, List.getElem_cons_zero, List.setIfInBounds_toArray, List.set_cons_zero, List.set_cons_succ]
  refine wpAnyH_take (i := 8) (v := ?_) rfl (by kernel_rfl) (by kernel_rfl) (by kernel_rfl) (fun _ _ _ h => h) (Or.inl ⟨by rfl, ?hyb8⟩) (by assumption) ?_
  case hyb8 => (intro w hSw; (try dsimp only at hSw); go_simp; try (with_reducible rfl))
  simp only [Act.put, List.getElem_toArray, List.getElem_cons_succ, List.getElem_cons_zero, List.setIfInBounds_toArray, List.set_cons_zero, List.set_cons_succ]
  refine wpAnyH_take (i := 9) (v := ?_) rfl (by kernel_rfl) (by kernel_rfl) (by kernel_rfl) (fun _ _ _ h => h) (Or.inl ⟨by rfl, ?hyb9⟩) (by assumption) ?_
  case hyb9 => (intro w hSw; (try dsimp only at hSw); go_simp; try (with_reducible rfl))
  simp only [Act.put, List.getElem_toArray, List.getElem_cons_succ, List.getElem_cons_zero, List.setIfInBounds_toArray, List.set_cons_zero, List.set_cons_succ]
  refine wpAnyH_done (by kernel_rfl) ?_ _
  clear hHeld
  go_wp2
  refine bodyPost_ret (v := .tuple #[.int .i64 4599676419421066581, .bool true, .int .i64 0]) (by simp [results, Tryd.results9, go_sem]) rfl ⟨rfl, hkk.drew.trans (hk3.trans hk4)⟩
end Go.Proofs.YtbffekcjdcihpaaDoor

namespace Go.Proofs.YtbffekcjdcihpaaDoor
open Go.RowKit

theorem digs_small (n : Nat) (h0 : n ≠ 0) (h : n < 1073741824) : digs n = [(n : Int)] := by
  rw [digs_pos n h0, Nat.mod_eq_of_lt h, Nat.div_eq_of_lt h, digs_zero]
theorem frm_6 : frm true (nv [6]) (-1) = some ⟨true, [3], 0⟩ := by
  have e : nv [6] = 6 := by decide
  have t : tzn 6 = 1 := by rw [tzn_even 6 (by decide) (by decide), tzn_odd _ (by decide)]
  have b : bl 6 = 3 := by decide
  have d : digs (6 / 2 ^ 1) = [3] := digs_small 3 (by decide) (by decide)
  have w : wrap64 (-1 + ((1 : Nat) : Int)) = 0 := by unfold wrap64; decide
  unfold frm
  rw [e, t, b, d, w, if_neg (by decide), if_pos (by decide)]
theorem frm_1 : frm (decide ((1 : Int) < 0)) (1 : Int).natAbs 0 = some ⟨false, [1], 0⟩ := by
  have t : tzn 1 = 0 := tzn_odd _ (by decide)
  have b : bl 1 = 1 := by decide
  have d : digs (1 / 2 ^ 0) = [1] := digs_small 1 (by decide) (by decide)
  have w : wrap64 (0 + ((0 : Nat) : Int)) = 0 := by unfold wrap64; decide
  unfold frm
  rw [show (1 : Int).natAbs = 1 from rfl, t, b, d, w, if_neg (by decide), if_pos (by decide)]
  rfl
theorem frm_3 : frm (decide ((3 : Int) < 0)) (3 : Int).natAbs 0 = some ⟨false, [3], 0⟩ := by
  have t : tzn 3 = 0 := tzn_odd _ (by decide)
  have b : bl 3 = 2 := by decide
  have d : digs (3 / 2 ^ 0) = [3] := digs_small 3 (by decide) (by decide)
  have w : wrap64 (0 + ((0 : Nat) : Int)) = 0 := by unfold wrap64; decide
  unfold frm
  rw [show (3 : Int).natAbs = 3 from rfl, t, b, d, w, if_neg (by decide), if_pos (by decide)]
  rfl
theorem addN_31 : addN ⟨true, [3], 0⟩ ⟨false, [1], 0⟩ = some ⟨true, [1], 1⟩ := by
  have e1 : nv [3] = 3 := by decide
  have e2 : nv [1] = 1 := by decide
  have b1 : bl 3 = 2 := by decide
  have b2 : bl 1 = 1 := by decide
  have t : tzn 2 = 1 := by rw [tzn_even 2 (by decide) (by decide), tzn_odd _ (by decide)]
  have b : bl 2 = 2 := by decide
  have d : digs (2 / 2 ^ 1) = [1] := digs_small 1 (by decide) (by decide)
  have w : wrap64 (min 0 0 + ((1 : Nat) : Int)) = 1 := by unfold wrap64; decide
  unfold addN tp tot frm
  dsimp only
  rw [e1, e2, b1, b2]
  have s : sg true (((3 : Nat) : Int) * 2 ^ ((0 : Int) - min 0 0).toNat) + sg false (((1 : Nat) : Int) * 2 ^ ((0 : Int) - min 0 0).toNat) = -2 := by decide
  rw [s, show (-2 : Int).natAbs = 2 from rfl, t, b, d, w, if_pos (by decide), if_neg (by decide), if_pos (by decide)]
  rfl
end Go.Proofs.YtbffekcjdcihpaaDoor

namespace Go.Proofs.YtbffekcjdcihpaaDoor
open Go.ChangeShapes Go.WideShapes Go.ChangeAt Go.RowKit
set_option linter.unusedVariables false
set_option linter.unusedSimpArgs false

theorem vldx : vld ⟨true, [3], 0⟩ = true := by decide +kernel
theorem own_one (w : World) (a : Int) : Own (w.alloc (.cells #[.int .i64 a] 3)) w.heap.size 1 [a] :=
  ⟨_, heap_alloc_new w _, Nat.le_refl _, by simp [maxLen], by simp, by simp⟩
theorem New.some {w0 w : World} {v : Value} {neg : Bool} {d : Int} {x : Int} (h : New w0 w v ⟨neg, [d], x⟩) : ∃ g cap, v = .agg #[.bool neg, .slice (some ⟨g, 0, none⟩) 1 cap, .int .i64 x] ∧ w0.heap.size ≤ g ∧ Own w g cap [d] := by
  rcases h with ⟨h, -⟩ | ⟨g, cap, e, hg, ho, -⟩
  · cases h
  · exact ⟨g, cap, e, hg, ho⟩

set_option maxHeartbeats 4000000 in
set_option maxRecDepth 100000 in
theorem alive_true (w : World) (hT : Tab w) : Calls Tryd.prog 4 #[] w fun e w' => e = .returned (.bool true) ∧ Kept w w' := by
  have HT : Hid (Tab w) := hT
  clear hT
  have hK0 : Kept w (w.alloc (.cells #[.int .i64 6] 3)) := (Kept.refl w).alloc _ _
  have KM : Hid (Calls Tryd.prog 6 #[.bool true, .slice (some ⟨w.heap.size, 0, none⟩) 1 1, .int .i64 (-1)] (w.alloc (.cells #[.int .i64 6] 3)) fun e w' => ∃ v, e = .returned (.tuple #[v, .int .i64 0]) ∧ New (w.alloc (.cells #[.int .i64 6] 3)) w' v ⟨true, [3], 0⟩ ∧ Kept (w.alloc (.cells #[.int .i64 6] 3)) w') := make_ok true [6] (Dg.cons (by decide) (by decide) Dg.nil) (by decide) (some ⟨w.heap.size, 0, none⟩) 1 (by simp) (-1) _ frm_6 _ (own_one w 6).sl (HT.out.kept hK0)
  go_enter Tryd.func4, Tryd.ntmps4
  go_wp2_with fail
  refine KM.out.mono ?_
  rintro e w1 ⟨v, rfl, hN, hk1⟩
  obtain ⟨g, cp, rfl, hg, ho⟩ := hN.some
  have HO : Hid (Own w1 g cp [3]) := ho
  have hk : Kept w w1 := hK0.trans hk1
  clear hN ho hg KM hK0 hk1
  have hK2 : Kept w1 (w1.alloc (.cells #[.bool true, .slice (some ⟨g, 0, none⟩) 1 cp, .int .i64 0] 24)) := (Kept.refl _).alloc _ _
  have HX2 : Hid (∀ u, Kept (w1.alloc (.cells #[.bool true, .slice (some ⟨g, 0, none⟩) 1 cp, .int .i64 0] 24)) u → Kept (w1.alloc (.cells #[.bool true, .slice (some ⟨g, 0, none⟩) 1 cp, .int .i64 0] 24)) u ∧ u.cell? ⟨w1.heap.size, 0, none⟩ = some (.bool true) ∧ u.cell? ⟨w1.heap.size, 1, none⟩ = some (.slice (some ⟨g, 0, none⟩) 1 cp) ∧ u.cell? ⟨w1.heap.size, 2, none⟩ = some (.int .i64 0)) := fun u k => ⟨k, (laid_cell k 0).trans (by simp [go_sem]), (laid_cell k 1).trans (by simp [go_sem]), (laid_cell k 2).trans (by simp [go_sem])⟩
  go_upto_region 2 with fail
  go_cut [3, 4] from 13 (fun t3 t4 wx => ∃ B g3 cp3, t3 = .pointer (some ⟨B, 0, none⟩) ∧ t4 = .int .i64 0 ∧ wx.cell? ⟨B, 0, none⟩ = some (.bool true) ∧ wx.cell? ⟨B, 1, none⟩ = some (.slice (some ⟨g3, 0, none⟩) 1 cp3) ∧ wx.cell? ⟨B, 2, none⟩ = some (.int .i64 1) ∧ B < wx.heap.size ∧ Own wx g3 cp3 [1] ∧ Kept (w1.alloc (.cells #[.bool true, .slice (some ⟨g, 0, none⟩) 1 cp, .int .i64 0] 24)) wx)
  case first =>
    refine wp_region_held_drew (S := fun u => Kept (w1.alloc (.cells #[.bool true, .slice (some ⟨g, 0, none⟩) 1 cp, .int .i64 0] 24)) u ∧ u.cell? ⟨w1.heap.size, 0, none⟩ = some (.bool true) ∧ u.cell? ⟨w1.heap.size, 1, none⟩ = some (.slice (some ⟨g, 0, none⟩) 1 cp) ∧ u.cell? ⟨w1.heap.size, 2, none⟩ = some (.int .i64 0)) (by kernel_rfl) (HX2.out _ (Kept.refl _).drew) (fun hHeld => ?_)
    refine wpAnyH_take (i := 0) (v := ?_) rfl (by kernel_rfl) (by kernel_rfl) (by kernel_rfl) (fun _ _ _ h => h) (Or.inl ⟨by rfl, ?hya0⟩) (by assumption) ?_
    case hya0 => (intro w hSw; (try dsimp only at hSw); go_simp; try (with_reducible rfl))
    simp only [Act.put, List.getElem_toArray, List.getElem_cons_succ, List.getElem_cons_zero, List.setIfInBounds_toArray, List.set_cons_zero, List.set_cons_succ]
    refine wpAnyH_ready (rs := [1, 6]) (by kernel_rfl) (by simp) ?_
    refine AllReadyH.cons rfl (fun K hK9 => ?_) (AllReadyH.cons rfl (fun K hK9 => ?_) AllReadyH.nil)
    · have hI := hHeld
      go_simp
      go_wp2_with fail
      refine (int_pos 1 (by decide) (by decide) _ frm_1 _ (HT.out.kept (hk.trans (hK2.trans hI.1)))).mono ?_
      rintro e w2 ⟨⟨v, rfl, hN2⟩, hk2⟩
      obtain ⟨g2, cp2, rfl, -, ho2⟩ := hN2.some
      refine hK9.out _ _ (HX2.out _ (hI.1.trans hk2)) (fun hHeld2 => ?_)
      clear hK9 K hN2
      refine wpAnyH_ready (rs := [2, 6]) (by kernel_rfl) (by simp) ?_
      refine AllReadyH.cons rfl (fun K hK9 => ?_) (AllReadyH.cons rfl (fun K hK9 => ?_) AllReadyH.nil)
      · have hA := hHeld2
        have oA := ho2
        go_simp
        go_wp2_with fail
        refine (add_ok _ (HT.out.kept (hk.trans (hK2.trans hA.1))) true [3] 0 (by decide) vldx (some ⟨g, 0, none⟩) cp false [1] 0 (by decide) vld1 (some ⟨g2, 0, none⟩) cp2 ((HO.out.kept (hK2.trans hA.1)).sl) oA.sl _ addN_31).mono ?_
        rintro e w3 ⟨v, rfl, hN3, hk3⟩
        obtain ⟨g3, cp3, rfl, hg3, ho3⟩ := hN3.some
        refine hK9.out _ _ (HX2.out _ (hA.1.trans hk3)) (fun hHeld3 => ?_)
        clear hK9 K hN3
        refine wpAnyH_take (i := 3) (v := ?_) rfl (by kernel_rfl) (by kernel_rfl) (by kernel_rfl) (fun _ _ _ h => h) (Or.inl ⟨by rfl, ?hyb3⟩) (by assumption) ?_
        case hyb3 => (intro w hSw; (try dsimp only at hSw); go_simp; try (with_reducible rfl))
        simp only [Act.put, List.getElem_toArray, List.getElem_cons_succ, List.getElem_cons_zero, List.setIfInBounds_toArray, List.set_cons_zero, List.set_cons_succ]
        refine wpAnyH_take (i := 4) (v := ?_) rfl (by kernel_rfl) (by kernel_rfl) (by kernel_rfl) (fun _ _ _ h => h) (Or.inl ⟨by rfl, ?hyb4⟩) (by assumption) ?_
        case hyb4 => (intro w hSw; (try dsimp only at hSw); go_simp; try (with_reducible rfl))
        simp only [Act.put, List.getElem_toArray, List.getElem_cons_succ, List.getElem_cons_zero, List.setIfInBounds_toArray, List.set_cons_zero, List.set_cons_succ]
        refine wpAnyH_take (i := 5) (v := ?_) rfl (by kernel_rfl) (by kernel_rfl) (by kernel_rfl) (fun _ _ _ h => h) (Or.inl ⟨by rfl, ?hyb5⟩) (by assumption) ?_
        case hyb5 => (intro w hSw; (try dsimp only at hSw); go_simp; try (with_reducible rfl))
        simp only [Act.put, List.getElem_toArray, List.getElem_cons_succ, List.getElem_cons_zero, List.setIfInBounds_toArray, List.set_cons_zero, List.set_cons_succ]
        refine wpAnyH_ready (rs := [6]) (by kernel_rfl) (by simp) ?_
        refine AllReadyH.cons rfl (fun K hK9 => ?_) AllReadyH.nil
        go_simp
        refine hK9.out _ _ (HX2.out _ (hHeld3.1.alloc _ _)) (fun hHeld4 => ?_)
        clear hK9 K
        have HB : (w1.alloc (.cells #[.bool true, .slice (some ⟨g, 0, none⟩) 1 cp, .int .i64 0] 24)).heap.size ≤ w3.heap.size := hHeld3.1.below.size
        have b0 : (w3.alloc nilNum).cell? ⟨w3.heap.size, 0, none⟩ = some (.bool false) := by simp [go_sem]
        have b1 : (w3.alloc nilNum).cell? ⟨w3.heap.size, 1, none⟩ = some (.slice none 0 0) := by simp [go_sem]
        have b2 : (w3.alloc nilNum).cell? ⟨w3.heap.size, 2, none⟩ = some (.int .i64 0) := by simp [go_sem]
        have hl3 := ho3.lt
        refine wpAnyH_ready (rs := [7]) (by kernel_rfl) (by simp) ?_
        refine AllReadyH.cons rfl (fun K hK9 => ?_) AllReadyH.nil
        go_simp
        have kF := hHeld3.1.alloc #[.bool true, .slice (some ⟨g3, 0, none⟩) 1 cp3, .int .i64 1] 24
        refine hK9.out _ _ (HX2.out _ kF) (fun hHeld9 => ?_)
        clear hK9 K
        refine wpAnyH_take (i := 8) (v := ?_) rfl (by kernel_rfl) (by kernel_rfl) (by kernel_rfl) (fun _ _ _ h => h) (Or.inl ⟨by rfl, ?hyc8⟩) (by assumption) ?_
        case hyc8 => (intro w hSw; (try dsimp only at hSw); go_simp; try (with_reducible rfl))
        simp only [Act.put, List.getElem_toArray, List.getElem_cons_succ, List.getElem_cons_zero, List.setIfInBounds_toArray, List.set_cons_zero, List.set_cons_succ]
        refine wpAnyH_done (by kernel_rfl) ?_ _
        (try simp only [List.getElem_toArray, List.getElem_cons_succ, List.getElem_cons_zero, List.setIfInBounds_toArray, List.set_cons_zero, List.set_cons_succ])
        go_wp2_with fail
        go_meet
        case rel => exact ⟨w3.heap.size, g3, cp3, rfl, rfl, by simp [go_sem], by simp [go_sem], by simp [go_sem], by simp, ho3.kept ((Kept.refl w3).alloc _ _), kF⟩
      · go_simp
        refine hK9.out _ _ (HX2.out _ (hHeld2.1.alloc _ _)) (fun hA => ?_)
        clear hK9 K
        have oA := ho2.kept ((Kept.refl w2).alloc #[.bool false, .slice none 0 0, .int .i64 0] 24)
        refine wpAnyH_ready (rs := [2]) (by kernel_rfl) (by simp) ?_
        refine AllReadyH.cons rfl (fun K hK9 => ?_) AllReadyH.nil
        go_simp
        go_wp2_with fail
        refine (add_ok _ (HT.out.kept (hk.trans (hK2.trans hA.1))) true [3] 0 (by decide) vldx (some ⟨g, 0, none⟩) cp false [1] 0 (by decide) vld1 (some ⟨g2, 0, none⟩) cp2 ((HO.out.kept (hK2.trans hA.1)).sl) oA.sl _ addN_31).mono ?_
        rintro e w3 ⟨v, rfl, hN3, hk3⟩
        obtain ⟨g3, cp3, rfl, hg3, ho3⟩ := hN3.some
        refine hK9.out _ _ (HX2.out _ (hA.1.trans hk3)) (fun hHeld3 => ?_)
        clear hK9 K hN3
        refine wpAnyH_take (i := 3) (v := ?_) rfl (by kernel_rfl) (by kernel_rfl) (by kernel_rfl) (fun _ _ _ h => h) (Or.inl ⟨by rfl, ?hyd3⟩) (by assumption) ?_
        case hyd3 => (intro w hSw; (try dsimp only at hSw); go_simp; try (with_reducible rfl))
        simp only [Act.put, List.getElem_toArray, List.getElem_cons_succ, List.getElem_cons_zero, List.setIfInBounds_toArray, List.set_cons_zero, List.set_cons_succ]
        refine wpAnyH_take (i := 4) (v := ?_) rfl (by kernel_rfl) (by kernel_rfl) (by kernel_rfl) (fun _ _ _ h => h) (Or.inl ⟨by rfl, ?hyd4⟩) (by assumption) ?_
        case hyd4 => (intro w hSw; (try dsimp only at hSw); go_simp; try (with_reducible rfl))
        simp only [Act.put, List.getElem_toArray, List.getElem_cons_succ, List.getElem_cons_zero, List.setIfInBounds_toArray, List.set_cons_zero, List.set_cons_succ]
        refine wpAnyH_take (i := 5) (v := ?_) rfl (by kernel_rfl) (by kernel_rfl) (by kernel_rfl) (fun _ _ _ h => h) (Or.inl ⟨by rfl, ?hyd5⟩) (by assumption) ?_
        case hyd5 => (intro w hSw; (try dsimp only at hSw); go_simp; try (with_reducible rfl))
        simp only [Act.put, List.getElem_toArray, List.getElem_cons_succ, List.getElem_cons_zero, List.setIfInBounds_toArray, List.set_cons_zero, List.set_cons_succ]
        have b0 : w3.cell? ⟨w2.heap.size, 0, none⟩ = some (.bool false) := (laid_cell hk3 0).trans (by simp [go_sem])
        have b1 : w3.cell? ⟨w2.heap.size, 1, none⟩ = some (.slice none 0 0) := (laid_cell hk3 1).trans (by simp [go_sem])
        have b2 : w3.cell? ⟨w2.heap.size, 2, none⟩ = some (.int .i64 0) := (laid_cell hk3 2).trans (by simp [go_sem])
        have bf : ∀ o, w3.frozen? ⟨w2.heap.size, o, none⟩ = false := fun o => (hk3.frozen _).trans (by simp [go_sem])
        have HB : (w1.alloc (.cells #[.bool true, .slice (some ⟨g, 0, none⟩) 1 cp, .int .i64 0] 24)).heap.size ≤ w2.heap.size := hHeld2.1.below.size
        have hl3 := ho3.lt
        have hll := hk3.below.size
        try simp only [World.size_alloc] at hll hg3
        refine wpAnyH_ready (rs := [7]) (by kernel_rfl) (by simp) ?_
        refine AllReadyH.cons rfl (fun K hK9 => ?_) AllReadyH.nil
        go_simp
        have kF := (hHeld3.1).setCell (p := ⟨w2.heap.size, 0, none⟩) HB (.bool true) |>.setCell (p := ⟨w2.heap.size, 1, none⟩) HB (.slice (some ⟨g3, 0, none⟩) 1 cp3) |>.setCell (p := ⟨w2.heap.size, 2, none⟩) HB (.int .i64 1)
        refine hK9.out _ _ (HX2.out _ kF) (fun hHeld9 => ?_)
        clear hK9 K
        refine wpAnyH_take (i := 8) (v := ?_) rfl (by kernel_rfl) (by kernel_rfl) (by kernel_rfl) (fun _ _ _ h => h) (Or.inl ⟨by rfl, ?hye8⟩) (by assumption) ?_
        case hye8 => (intro w hSw; (try dsimp only at hSw); go_simp; try (with_reducible rfl))
        simp only [Act.put, List.getElem_toArray, List.getElem_cons_succ, List.getElem_cons_zero, List.setIfInBounds_toArray, List.set_cons_zero, List.set_cons_succ]
        refine wpAnyH_done (by kernel_rfl) ?_ _
        (try simp only [List.getElem_toArray, List.getElem_cons_succ, List.getElem_cons_zero, List.setIfInBounds_toArray, List.set_cons_zero, List.set_cons_succ])
        go_wp2_with fail
        go_meet
        case rel => exact ⟨w2.heap.size, g3, cp3, rfl, rfl, by simp [go_sem, b0, b1, b2], by simp [go_sem, b0, b1, b2], by simp [go_sem, b0, b1, b2], by simp; omega, (((ho3).setOther (by simp; omega) _).setOther (by simp; omega) _).setOther (by simp; omega) _, kF⟩
    · go_simp
      refine hK9.out _ _ (HX2.out _ (hHeld.1.alloc _ _)) (fun hI => ?_)
      clear hK9 K
      refine wpAnyH_ready (rs := [1]) (by kernel_rfl) (by simp) ?_
      refine AllReadyH.cons rfl (fun K hK9 => ?_) AllReadyH.nil
      go_simp
      go_wp2_with fail
      refine (int_pos 1 (by decide) (by decide) _ frm_1 _ (HT.out.kept (hk.trans (hK2.trans hI.1)))).mono ?_
      rintro e w2 ⟨⟨v, rfl, hN2⟩, hk2⟩
      obtain ⟨g2, cp2, rfl, -, ho2⟩ := hN2.some
      refine hK9.out _ _ (HX2.out _ (hI.1.trans hk2)) (fun hHeld2 => ?_)
      clear hK9 K hN2
      refine wpAnyH_ready (rs := [2]) (by kernel_rfl) (by simp) ?_
      refine AllReadyH.cons rfl (fun K hK9 => ?_) AllReadyH.nil
      have hA := hHeld2
      have oA := ho2
      go_simp
      go_wp2_with fail
      refine (add_ok _ (HT.out.kept (hk.trans (hK2.trans hA.1))) true [3] 0 (by decide) vldx (some ⟨g, 0, none⟩) cp false [1] 0 (by decide) vld1 (some ⟨g2, 0, none⟩) cp2 ((HO.out.kept (hK2.trans hA.1)).sl) oA.sl _ addN_31).mono ?_
      rintro e w3 ⟨v, rfl, hN3, hk3⟩
      obtain ⟨g3, cp3, rfl, hg3, ho3⟩ := hN3.some
      refine hK9.out _ _ (HX2.out _ (hA.1.trans hk3)) (fun hHeld3 => ?_)
      clear hK9 K hN3
      refine wpAnyH_take (i := 3) (v := ?_) rfl (by kernel_rfl) (by kernel_rfl) (by kernel_rfl) (fun _ _ _ h => h) (Or.inl ⟨by rfl, ?hyf3⟩) (by assumption) ?_
      case hyf3 => (intro w hSw; (try dsimp only at hSw); go_simp; try (with_reducible rfl))
      simp only [Act.put, List.getElem_toArray, List.getElem_cons_succ, List.getElem_cons_zero, List.setIfInBounds_toArray, List.set_cons_zero, List.set_cons_succ]
      refine wpAnyH_take (i := 4) (v := ?_) rfl (by kernel_rfl) (by kernel_rfl) (by kernel_rfl) (fun _ _ _ h => h) (Or.inl ⟨by rfl, ?hyf4⟩) (by assumption) ?_
      case hyf4 => (intro w hSw; (try dsimp only at hSw); go_simp; try (with_reducible rfl))
      simp only [Act.put, List.getElem_toArray, List.getElem_cons_succ, List.getElem_cons_zero, List.setIfInBounds_toArray, List.set_cons_zero, List.set_cons_succ]
      refine wpAnyH_take (i := 5) (v := ?_) rfl (by kernel_rfl) (by kernel_rfl) (by kernel_rfl) (fun _ _ _ h => h) (Or.inl ⟨by rfl, ?hyf5⟩) (by assumption) ?_
      case hyf5 => (intro w hSw; (try dsimp only at hSw); go_simp; try (with_reducible rfl))
      simp only [Act.put, List.getElem_toArray, List.getElem_cons_succ, List.getElem_cons_zero, List.setIfInBounds_toArray, List.set_cons_zero, List.set_cons_succ]
      have hk23 := hk2.trans hk3
      have b0 : w3.cell? ⟨w1.heap.size + 1, 0, none⟩ = some (.bool false) := (hk23.below.cell (p := ⟨w1.heap.size + 1, 0, none⟩) (by simp)).trans (by simp [go_sem])
      have b1 : w3.cell? ⟨w1.heap.size + 1, 1, none⟩ = some (.slice none 0 0) := (hk23.below.cell (p := ⟨w1.heap.size + 1, 1, none⟩) (by simp)).trans (by simp [go_sem])
      have b2 : w3.cell? ⟨w1.heap.size + 1, 2, none⟩ = some (.int .i64 0) := (hk23.below.cell (p := ⟨w1.heap.size + 1, 2, none⟩) (by simp)).trans (by simp [go_sem])
      have bf : ∀ o, w3.frozen? ⟨w1.heap.size + 1, o, none⟩ = false := fun o => (hk23.frozen _).trans (by simp [go_sem])
      have HB : (w1.alloc (.cells #[.bool true, .slice (some ⟨g, 0, none⟩) 1 cp, .int .i64 0] 24)).heap.size ≤ w1.heap.size + 1 := by simp
      have hl3 := ho3.lt
      have hll := hk2.below.size
      have hlm := hk3.below.size
      try simp only [World.size_alloc] at hll hg3
      have hle : w1.heap.size + 2 ≤ w2.heap.size := by simpa using hll
      refine wpAnyH_ready (rs := [7]) (by kernel_rfl) (by simp) ?_
      refine AllReadyH.cons rfl (fun K hK9 => ?_) AllReadyH.nil
      go_simp
      have kF := (hHeld3.1).setCell (p := ⟨w1.heap.size + 1, 0, none⟩) HB (.bool true) |>.setCell (p := ⟨w1.heap.size + 1, 1, none⟩) HB (.slice (some ⟨g3, 0, none⟩) 1 cp3) |>.setCell (p := ⟨w1.heap.size + 1, 2, none⟩) HB (.int .i64 1)
      refine hK9.out _ _ (HX2.out _ kF) (fun hHeld9 => ?_)
      clear hK9 K
      refine wpAnyH_take (i := 8) (v := ?_) rfl (by kernel_rfl) (by kernel_rfl) (by kernel_rfl) (fun _ _ _ h => h) (Or.inl ⟨by rfl, ?hyg8⟩) (by assumption) ?_
      case hyg8 => (intro w hSw; (try dsimp only at hSw); go_simp; try (with_reducible rfl))
      simp only [Act.put, List.getElem_toArray, List.getElem_cons_succ, List.getElem_cons_zero, List.setIfInBounds_toArray, List.set_cons_zero, List.set_cons_succ]
      refine wpAnyH_done (by kernel_rfl) ?_ _
      (try simp only [List.getElem_toArray, List.getElem_cons_succ, List.getElem_cons_zero, List.setIfInBounds_toArray, List.set_cons_zero, List.set_cons_succ])
      go_wp2_with fail
      go_meet
      case rel => exact ⟨w1.heap.size + 1, g3, cp3, rfl, rfl, by simp [go_sem, b0, b1, b2], by simp [go_sem, b0, b1, b2], by simp [go_sem, b0, b1, b2], by simp; omega, (((ho3).setOther (by simp; omega) _).setOther (by simp; omega) _).setOther (by simp; omega) _, kF⟩
  case rest =>
    obtain ⟨B, g3, cp3, rfl, rfl, s0, s1, s2, hB, ho3, hkx⟩ := hcut
    have HO3 : Hid (Own wc g3 cp3 [1]) := ho3
    have hkw : Kept w wc := hk.trans (hK2.trans hkx)
    clear ho3
    go_wp2_with fail
    refine (int_pos 1 (by decide) (by decide) _ frm_1 _ (HT.out.kept hkw)).mono ?_
    rintro e v1 ⟨⟨v, rfl, hN1⟩, hv1⟩
    obtain ⟨ga, ca, rfl, -, hoa⟩ := hN1.some
    have HA : Hid (Own v1 ga ca [1]) := hoa
    clear hN1 hoa
    go_wp2_with fail
    refine (int_pos 3 (by decide) (by decide) _ frm_3 _ (HT.out.kept (hkw.trans hv1))).mono ?_
    rintro e v2 ⟨⟨v, rfl, hN2⟩, hv2⟩
    obtain ⟨gb, cb, rfl, -, hob⟩ := hN2.some
    have HB : Hid (Own v2 gb cb [3]) := hob
    clear hN2 hob
    go_wp2_with fail
    refine (quot_third (some ⟨ga, 0, none⟩) (some ⟨gb, 0, none⟩) ca cb v2 ((HA.out.kept hv2).sl) HB.out.sl (HT.out.kept (hkw.trans (hv1.trans hv2)))).mono ?_
    rintro e v3 ⟨rfl, hv3⟩
    have h13 := hv1.trans (hv2.trans hv3)
    have c0 := (h13.below.cell (p := ⟨B, 0, none⟩) hB).trans s0
    have c1 := (h13.below.cell (p := ⟨B, 1, none⟩) hB).trans s1
    have c2 := (h13.below.cell (p := ⟨B, 2, none⟩) hB).trans s2
    obtain ⟨-, d0, d1, d2⟩ := HX2.out _ (hkx.trans h13)
    have hBv : B < v3.heap.size := Nat.lt_of_lt_of_le hB h13.below.size
    have HO3' : Hid (Own v3 g3 cp3 [1]) := HO3.out.kept h13
    have HO' : Hid (Own v3 g cp [3]) := HO.out.kept (hK2.trans (hkx.trans h13))
    have hkv : Kept w v3 := hkw.trans h13
    have S0 : Hid (∀ u, Kept v3 u → u.cell? ⟨B, 0, none⟩ = some (.bool true) ∧ u.cell? ⟨B, 1, none⟩ = some (.slice (some ⟨g3, 0, none⟩) 1 cp3) ∧ u.cell? ⟨B, 2, none⟩ = some (.int .i64 1)) := fun u k => ⟨(k.below.cell (p := ⟨B, 0, none⟩) hBv).trans c0, (k.below.cell (p := ⟨B, 1, none⟩) hBv).trans c1, (k.below.cell (p := ⟨B, 2, none⟩) hBv).trans c2⟩
    clear s0 s1 s2 c0 c1 c2
    go_wp2_with fail
    refine (sameNum_true ⟨true, [3], 0⟩ (by decide) _ _ _ ⟨_, rfl, (HO'.out.kept ((Kept.refl v3).alloc _ _)).sl⟩ ⟨_, rfl, (own_one v3 3).sl⟩).mono ?_
    rintro e v4 ⟨rfl, hv4⟩
    have h34 : Kept v3 v4 := ((Kept.refl v3).alloc _ _).trans hv4
    clear d0 d1 d2
    obtain ⟨c0, c1, c2⟩ := S0.out _ h34
    go_wp2_with fail
    refine (sameNum_true ⟨true, [1], 1⟩ (by decide) _ _ _ ⟨_, rfl, (HO3'.out.kept (h34.alloc _ _)).sl⟩ ⟨_, rfl, (own_one v4 1).sl⟩).mono ?_
    rintro e v5 ⟨rfl, hv5⟩
    go_wp2
    go_ret
    exact ⟨rfl, hkv.trans ((h34.alloc _ _).trans hv5)⟩
end Go.Proofs.YtbffekcjdcihpaaDoor

namespace Go.Proofs.YtbffekcjdcihpaaDoor
open Go.ChangeShapes Go.WideShapes Go.ChangeAt Go.RowKit
set_option linter.unusedVariables false
set_option linter.unusedSimpArgs false

def OwnV (w : World) (g cap : Nat) (e : TypeId) (V : List Value) : Prop := ∃ cur, w.heap[g]? = some (.cells cur e (0, 0)) ∧ V.length ≤ cap ∧ cap ≤ maxLen ∧ cur.size = cap ∧ cur.toList.take V.length = V
theorem own_v {w : World} {g cap : Nat} {L : List Int} : Own w g cap L ↔ OwnV w g cap 3 (L.map (Value.int .i64)) := by
  unfold Own OwnV
  simp only [List.length_map]
theorem OwnV.lt {w : World} {g cap : Nat} {e : TypeId} {V : List Value} (h : OwnV w g cap e V) : g < w.heap.size := by
  obtain ⟨cur, hg, -⟩ := h
  exact lt_of_block hg
theorem OwnV.kept {w w' : World} {g cap : Nat} {e : TypeId} {V : List Value} (h : OwnV w g cap e V) (k : Kept w w') : OwnV w' g cap e V := by
  have hl := h.lt
  obtain ⟨cur, hg, r⟩ := h
  exact ⟨cur, (k.below.block g hl).trans hg, r⟩
theorem OwnV.grw {w w' : World} {g g' cap : Nat} {e : TypeId} {V : List Value} (h : OwnV w g cap e V) (k : Grw g' w w') (hne : g ≠ g') : OwnV w' g cap e V := by
  have hl := h.lt
  obtain ⟨cur, hg, r⟩ := h
  exact ⟨cur, (k.grown.block g hl (by simpa using hne)).trans hg, r⟩
theorem OwnV.setOther {w : World} {g cap : Nat} {e : TypeId} {V : List Value} (h : OwnV w g cap e V) {p : Addr} (hp : g ≠ p.block) (u : Value) : OwnV (w.setCell p u) g cap e V := by
  obtain ⟨cur, hg, r⟩ := h
  exact ⟨cur, (Below.heap_setCell w p u g hp).trans hg, r⟩
theorem OwnV.cell {w : World} {g cap : Nat} {e : TypeId} {V : List Value} (h : OwnV w g cap e V) (i : Nat) (x : Value) (hi : V[i]? = some x) : w.cell? ⟨g, i, none⟩ = some x := by
  obtain ⟨cur, hg, h1, h2, h3, h4⟩ := h
  rw [cell_of_row w g i cur e (0, 0) hg]
  rw [← h4, List.getElem?_take] at hi
  split at hi
  · simpa using hi
  · cases hi
theorem OwnV.some {w : World} {g cap : Nat} {e : TypeId} {V : List Value} (h : OwnV w g cap e V) (i : Nat) (hi : i < cap) : (w.cell? ⟨g, i, none⟩).isSome = true := by
  obtain ⟨cur, hg, h1, h2, h3, h4⟩ := h
  rw [cell_of_row w g i cur e (0, 0) hg]
  simp
  omega
theorem OwnV.free {w : World} {g cap : Nat} {e : TypeId} {V : List Value} (h : OwnV w g cap e V) (i : Nat) : w.frozen? ⟨g, i, none⟩ = false := by
  obtain ⟨cur, hg, -⟩ := h
  exact frozen_of_row w g i cur e hg
theorem OwnV.set {w : World} {g cap : Nat} {e : TypeId} {V : List Value} (h : OwnV w g cap e V) (i : Nat) (x : Value) : OwnV (w.setCell ⟨g, i, none⟩ x) g cap e (V.set i x) := by
  obtain ⟨cur, hg, h1, h2, h3, h4⟩ := h
  refine ⟨cur.setIfInBounds i x, heap_setCell_same w g i cur e _ hg, by simpa using h1, h2, by simpa using h3, ?_⟩
  rw [Array.toList_setIfInBounds, List.length_set, List.take_set, h4]
theorem OwnV.push {w : World} {g cap : Nat} {e : TypeId} {V : List Value} (h : OwnV w g cap e V) (hi : V.length < cap) (x : Value) : OwnV (w.setCell ⟨g, V.length, none⟩ x) g cap e (V ++ [x]) := by
  obtain ⟨cur, hg, h1, h2, h3, h4⟩ := h
  refine ⟨cur.setIfInBounds V.length x, heap_setCell_same w g V.length cur e _ hg, by simp; omega, h2, by simpa using h3, ?_⟩
  rw [Array.toList_setIfInBounds, List.length_append, List.length_singleton, List.take_set, List.take_add_one, h4]
  have : (cur.toList)[V.length]? = Option.some (cur.toList[V.length]'(by simp; omega)) := List.getElem?_eq_getElem _
  rw [this, List.set_append_right _ _ (by omega), Nat.sub_self]
  rfl
theorem OwnV.pushes {g cap : Nat} {e : TypeId} (news : List Value) : ∀ {w : World} {V : List Value} (h : OwnV w g cap e V) (hi : V.length + news.length ≤ cap), OwnV (w.setCells g V.length news) g cap e (V ++ news) := by
  induction news with
  | nil => intro w V h hi; simpa [World.setCells] using h
  | cons x r ih =>
    intro w V h hi
    simp only [List.length_cons] at hi
    have h2 := h.push (by omega) x
    have := ih h2 (by simp; omega)
    rw [List.length_append, List.length_singleton] at this
    rw [World.setCells]
    simpa using this
theorem Grw.setCells {g : Nat} {a : World} (news : List Value) : ∀ {b : World} (h : Grw g a b) (o : Nat), Grw g a (b.setCells g o news) := by
  induction news with
  | nil => intro b h o; exact h
  | cons x r ih => intro b h o; exact ih (h.setCell o x) (o + 1)
theorem ownV_new (w : World) (e : TypeId) (z : Value) (hz : z.cells.size = 1) (V : List Value) (cap : Nat) (h1 : V.length ≤ cap) (h2 : cap ≤ maxLen) : OwnV (w.alloc (.cells (V.toArray ++ Builtin.zeroCells z.cells (cap - V.length)) e)) w.heap.size cap e V := by
  refine ⟨_, heap_alloc_new w _, h1, h2, ?_, ?_⟩
  · simp [size_zeroCells, hz]; omega
  · simp

/-- A row of one's own, or none yet. -/
def Rw (w : World) (v : Value) (e : TypeId) (V : List Value) : Prop := (V = [] ∧ v = .slice none 0 0) ∨ ∃ g cap, v = .slice (some ⟨g, 0, none⟩) V.length cap ∧ OwnV w g cap e V

/-- Append: in place, or to a new row. -/
theorem app_gen (t e : TypeId) (ht : Tryd.prog.underlying t = some (.slice e)) (z : Value) (by8 : Nat) (hinf : (Tryd.prog.info? e).map (fun i => (i.zero, i.size, i.bytes)) = some (some z, 1, by8)) (hz : z.cells.size = 1) (hby : by8 ≤ 24)
    (w : World) (v : Value) (olds news : List Value) (hv : Rw w v e olds) (ad : Addr) (m c : Nat) (hl : news.length = m) (hnews : ∀ j u, news[j]? = some u → w.cell? (ad.add j) = some u) (h1 : ∀ u ∈ news, u.oneCell' = true) (hm : 0 < m) (hsz : olds.length + m < 100000000) :
    ∃ g cap w', (∀ ty, (Builtin.append_ #[t, t] ty #[v, .slice (some ad) m c]).run Tryd.prog w = .ok (.slice (some ⟨g, 0, none⟩) (olds.length + m) cap) w') ∧ OwnV w' g cap e (olds ++ news) ∧ ((g = w.heap.size ∧ Kept w w') ∨ (v = .slice (some ⟨g, 0, none⟩) olds.length cap ∧ Grw g w w')) := by
  obtain ⟨i, hi, hz2, hs, hb⟩ := info_parts hinf
  have hS : Src Tryd.prog i.size t (.slice (some ad) m c) m news w := Src.ofSlice w ht ad m c news (by rw [hs]; omega) hnews h1
  rcases hv with ⟨rfl, rfl⟩ | ⟨g, cap, rfl, hO⟩
  · obtain ⟨C, hC⟩ : ∃ C, grownCap w (0 + m) 0 e = C := ⟨_, rfl⟩
    have hC1 : 0 + m ≤ C := by rw [← hC]; exact grownCap_ge _ _ _ _
    have hC2 : C ≤ maxLen := by rw [← hC]; exact grownCap_le_maxLen _ _ _ _ (by simp [maxLen] at *; omega)
    have hO := ownV_new w.drew e z hz news C (by omega) hC2
    have hK : Kept w (w.drew.alloc (.cells (news.toArray ++ Builtin.zeroCells z.cells (C - news.length)) e)) := (Kept.refl w).drew.alloc _ _
    refine ⟨w.heap.size, C, _, fun ty => ?_, by simpa using hO, .inl ⟨rfl, hK⟩⟩
    have := run_append_grow_src w t t ty e i z ht hi hz2 none 0 0 [] (by simpa using run_firstCells_none (P := Tryd.prog) w.drew i.size 0 0 0) (.slice (some ad) m c) m news hS (by omega) (by omega) (growslice_fits (by omega) (by rw [hb]; simp only [List.length_nil] at hsz; exact Nat.le_trans (Nat.mul_le_mul_left _ hby) (by omega)))
    rw [hC] at this
    rw [this]
    simp [hl]
  · by_cases hr : olds.length + m ≤ cap
    · refine ⟨g, cap, w.setCells g olds.length news, fun ty => ?_, hO.pushes news (by omega), .inr ⟨rfl, (Grw.refl g w).setCells news _⟩⟩
      have := run_append_room_src w t t ty e i ht hi g 0 olds.length cap (.slice (some ad) m c) m news hS hr (fun j hj => hO.some _ (by rw [hs]; omega)) (fun j hj => hO.free _)
      rw [this, hs]
      simp
    · obtain ⟨C, hC⟩ : ∃ C, grownCap w (olds.length + m) cap e = C := ⟨_, rfl⟩
      have hC1 : olds.length + m ≤ C := by rw [← hC]; exact grownCap_ge _ _ _ _
      have hC2 : C ≤ maxLen := by rw [← hC]; exact grownCap_le_maxLen _ _ _ _ (by simp [maxLen]; omega)
      have hO2 := ownV_new w.drew e z hz (olds ++ news) C (by rw [List.length_append]; omega) hC2
      have hK : Kept w (w.drew.alloc (.cells ((olds ++ news).toArray ++ Builtin.zeroCells z.cells (C - (olds ++ news).length)) e)) := (Kept.refl w).drew.alloc _ _
      refine ⟨w.heap.size, C, _, fun ty => ?_, by simpa using hO2, .inl ⟨rfl, hK⟩⟩
      have hcl : cap < olds.length + m := by omega
      have := run_append_grow_src w t t ty e i z ht hi hz2 (some ⟨g, 0, none⟩) olds.length cap olds (run_firstCells_some (P := Tryd.prog) w.drew i.size olds.length ⟨g, 0, none⟩ olds.length cap olds (by rw [hs]; omega) (fun j u hu => by rw [Addr.add_lit, Nat.zero_add]; exact hO.cell j u hu)) (.slice (some ad) m c) m news hS hcl (by omega) (growslice_fits hcl (by rw [hb]; exact Nat.le_trans (Nat.mul_le_mul_left _ hby) (by omega)))
      rw [hC] at this
      rw [this]
      simp [hl]

/-- Append of ints that a slice holds to nil. -/
theorem app_nil (L : List Int) (hlen : L.length < 100000000) (v : Value) (w : World) (h : Sl w v L) : ∃ v' w', (∀ ty, (Builtin.append_ #[22, 22] ty #[.slice none 0 0, v]).run Tryd.prog w = .ok v' w') ∧ Kept w w' ∧ ((L = [] ∧ v' = .slice none 0 0) ∨ ∃ g cap, v' = .slice (some ⟨g, 0, none⟩) L.length cap ∧ w.heap.size ≤ g ∧ Own w' g cap L) := by
  obtain ⟨ao, cap, rfl, hc, hm, hr⟩ := h
  by_cases hne : L = []
  · subst hne
    obtain ⟨i, hi, hz2, hs, hb⟩ := info_parts (int_info)
    refine ⟨_, w, fun ty => run_append_nothing w 22 22 ty 3 i li_under hi none 0 0 (by omega) _ ?_, Kept.refl w, .inl ⟨rfl, rfl⟩⟩
    cases ao with
    | none => exact Src.ofNil w li_under cap
    | some a => exact Src.ofSlice w li_under a 0 cap [] (by simp) (fun j u hu => by simp at hu) (fun u hu => by cases hu)
  · obtain ⟨b, off, rfl, hb, hr⟩ := hr hne
    have hpos := List.length_pos_iff.2 hne
    obtain ⟨g, C, w', hrun, hO, hk⟩ := app_gen 22 3 li_under (.int .i64 0) 8 int_info (by simp [Value.cells]) (by omega) w (.slice none 0 0) [] (L.map (Value.int .i64)) (.inl ⟨rfl, rfl⟩) ⟨b, off, none⟩ L.length cap (by simp) (fun j u hj => by
      rw [List.getElem?_map] at hj
      by_cases hjl : j < L.length
      · rw [List.getElem?_eq_getElem hjl] at hj
        cases hj
        have := hr j hjl
        rw [List.getD_eq_getElem?_getD, List.getElem?_eq_getElem hjl] at this
        rw [Addr.add_lit]
        simpa using this
      · rw [List.getElem?_eq_none (by omega)] at hj
        cases hj) (fun u hu => by obtain ⟨x, -, rfl⟩ := List.mem_map.1 hu; rfl) hpos (by simpa using hlen)
    rcases hk with ⟨rfl, hK⟩ | ⟨e, -⟩
    · refine ⟨_, w', fun ty => by simpa using hrun ty, hK, .inr ⟨_, C, rfl, Nat.le_refl _, own_v.2 (by simpa using hO)⟩⟩
    · cases e
end Go.Proofs.YtbffekcjdcihpaaDoor

namespace Go.Proofs.YtbffekcjdcihpaaDoor
open Go.ChangeShapes Go.WideShapes Go.ChangeAt Go.RowKit
set_option linter.unusedVariables false
set_option linter.unusedSimpArgs false

def MR (H : Nat) (w : World) (v : Value) (M : List Int) : Prop := (M = [] ∧ v = .slice none 0 0) ∨ ∃ g cap, v = .slice (some ⟨g, 0, none⟩) M.length cap ∧ H ≤ g ∧ Own w g cap M
theorem MR.kept {H : Nat} {w w' : World} {v : Value} {M : List Int} (h : MR H w v M) (k : Kept w w') : MR H w' v M := by
  rcases h with h | ⟨g, cap, e, hg, ho⟩
  · exact .inl h
  · exact .inr ⟨g, cap, e, hg, ho.kept k⟩
theorem MR.sl {H : Nat} {w : World} {v : Value} {M : List Int} (h : MR H w v M) : ∃ ao c, v = .slice ao M.length c ∧ (ao = none → c = 0) ∧ Sl w (.slice ao M.length c) M := by
  rcases h with ⟨rfl, rfl⟩ | ⟨g, cap, rfl, hg, ho⟩
  · exact ⟨none, 0, rfl, fun _ => rfl, none, 0, rfl, Nat.le_refl _, by simp [maxLen], fun h => absurd rfl h⟩
  · exact ⟨_, _, rfl, fun h => by simp at h, ho.sl⟩

theorem app_step (H : Nat) (wr : World) (lv : Value) (M : List Int) (hM : MR H wr lv M) (d : Int) (hH : H ≤ wr.heap.size) (hlen : M.length < 10000000) : ∃ v' w', (∀ ty, (Builtin.append_ #[22, 22] ty #[lv, .slice (some ⟨wr.heap.size, 0, none⟩) 1 1]).run Tryd.prog (wr.alloc (.cells #[.int .i64 d] 3)) = .ok v' w') ∧ MR H w' v' (M ++ [d]) ∧ (∀ W : World, W.heap.size ≤ H → Kept W wr → Kept W w') := by
  have hK : Kept wr (wr.alloc (.cells #[.int .i64 d] 3)) := (Kept.refl _).alloc _ _
  have hR : Rw (wr.alloc (.cells #[.int .i64 d] 3)) lv 3 (M.map (Value.int .i64)) := by
    rcases hM with ⟨rfl, rfl⟩ | ⟨g, cap, rfl, hg, ho⟩
    · exact .inl ⟨rfl, rfl⟩
    · exact .inr ⟨g, cap, by rw [List.length_map], own_v.1 (ho.kept hK)⟩
  obtain ⟨g, cap, w', hr, ho, hk⟩ := app_gen 22 3 li_under (.int .i64 0) 8 int_info (by rfl) (by decide) (wr.alloc (.cells #[.int .i64 d] 3)) lv (M.map (Value.int .i64)) [.int .i64 d] hR ⟨wr.heap.size, 0, none⟩ 1 1 rfl (fun j u hj => by
    rcases j with _ | j
    · cases hj
      simp [go_sem]
    · simp at hj) (fun u hu => by rw [List.mem_singleton.1 hu]; rfl) (by decide) (by rw [List.length_map]; omega)
  rw [List.length_map] at hr
  have hO : Own w' g cap (M ++ [d]) := own_v.2 (by rw [List.map_append]; exact ho)
  refine ⟨_, w', hr, .inr ⟨g, cap, by rw [List.length_append]; rfl, ?_, hO⟩, ?_⟩
  · rcases hk with ⟨e, -⟩ | ⟨e, -⟩
    · rw [e]; simp; omega
    · rcases hM with ⟨-, rfl⟩ | ⟨g0, cap0, rfl, hg, -⟩
      · simp at e
      · have e' : g0 = g := by simp at e; exact e.1
        omega
  · intro W hW k
    rcases hk with ⟨e, kk⟩ | ⟨e, gg⟩
    · exact (k.trans hK).trans kk
    · refine (k.trans hK).grw ?_ gg
      rcases hM with ⟨-, rfl⟩ | ⟨g0, cap0, rfl, hg, -⟩
      · simp at e
      · have e' : g0 = g := by simp at e; exact e.1
        omega

end Go.Proofs.YtbffekcjdcihpaaDoor

namespace Go.Proofs.YtbffekcjdcihpaaDoor
open Go.ChangeShapes Go.WideShapes Go.ChangeAt Go.RowKit
set_option linter.unusedVariables false
set_option linter.unusedSimpArgs false

def dl (V : Nat) : Nat → List Int
  | 0 => []
  | c + 1 => dl V c ++ [((V / 2 ^ (30 * c) % 1073741824 : Nat) : Int)]
theorem dl_zero (V : Nat) : dl V 0 = [] := rfl
theorem dl_succ (V c : Nat) : dl V (c + 1) = dl V c ++ [((V / 2 ^ (30 * c) % 1073741824 : Nat) : Int)] := rfl
theorem dl_length (V c : Nat) : (dl V c).length = c := by
  induction c with
  | zero => rfl
  | succ c ih => rw [dl_succ, List.length_append, ih]; rfl
theorem dl_dg (V c : Nat) : Dg (dl V c) := by
  induction c with
  | zero => exact Dg.nil
  | succ c ih =>
    intro d hd
    rcases List.mem_append.1 hd with h | h
    · exact ih d h
    · rw [List.mem_singleton.1 h]
      omega
theorem dl_nv (V c : Nat) : nv (dl V c) = V % 2 ^ (30 * c) := by
  induction c with
  | zero => rw [dl_zero, Nat.mul_zero, Nat.pow_zero, Nat.mod_one]; rfl
  | succ c ih =>
    rw [dl_succ, nv_append, ih, dl_length, pow30, Nat.mul_comm 1073741824, Nat.mod_mul]
    congr 1
theorem dl_lt (V c : Nat) (h : V < 2 ^ (30 * c)) : nv (dl V c) = V := by rw [dl_nv, Nat.mod_eq_of_lt h]
theorem dl_zeros (V f : Nat) : dl (V * 2 ^ (30 * f)) f = List.replicate f 0 := by
  have key : ∀ c, c ≤ f → dl (V * 2 ^ (30 * f)) c = List.replicate c 0 := by
    intro c hc
    induction c with
    | zero => rfl
    | succ c ih =>
      have e : V * 2 ^ (30 * f) / 2 ^ (30 * c) % 1073741824 = 0 := by
        rw [show 30 * f = 30 * (f - c - 1) + 30 + 30 * c by omega, Nat.pow_add, ← Nat.mul_assoc, Nat.mul_div_cancel _ (Nat.two_pow_pos _), Nat.pow_add, ← Nat.mul_assoc, show (2 : Nat) ^ 30 = 1073741824 from rfl]
        exact Nat.mul_mod_left _ _
      rw [dl_succ, ih (by omega), e, List.replicate_succ']
      rfl
  exact key f (Nat.le_refl _)

/-- A list without its noughts on top. -/
theorem trim_list (M : List Int) (hM : Dg M) (k : Nat) (hk : k ≤ M.length) (hz : ∀ j, k ≤ j → M.getD j 0 = 0) (hl : k = 0 ∨ M.getD (k - 1) 0 ≠ 0) : M.take k = digs (nv M) := by
  rcases k with _ | k
  · rw [List.take_zero, (nv_zero M hM).2 (fun i => hz i (Nat.zero_le _)), digs_zero]
  · have hnv := nv_take M hM k (fun j hj => hz j hj)
    have hlen : (M.take (k + 1)).length = k + 1 := by rw [List.length_take]; omega
    have hlast : (M.take (k + 1)).getD k 0 = M.getD k 0 := by
      rw [List.getD_eq_getElem?_getD, List.getD_eq_getElem?_getD, List.getElem?_take, if_pos (by omega)]
    rw [← hnv]
    refine (digs_nv _ (dg_take M hM _) (.inr ?_)).symm
    rw [hlen, Nat.add_sub_cancel, hlast]
    rcases hl with h | h
    · omega
    · simpa using h

theorem add_step (A B P b : Nat) (hP : 0 < P) (hb : 0 < b) : (A + B) / P % b = ((A % P + B % P) / P + A / P % b + B / P % b) % b ∧ (A % (P * b) + B % (P * b)) / (P * b) = ((A % P + B % P) / P + A / P % b + B / P % b) / b := by
  constructor
  · have e : A + B = (A % P + B % P) + P * (A / P + B / P) := by
      have h1 := Nat.mod_add_div A P
      have h2 := Nat.mod_add_div B P
      rw [Nat.mul_add]
      omega
    rw [e, Nat.add_mul_div_left _ _ hP]
    have : ∀ x y z : Nat, (x + (y + z)) % b = (x + y % b + z % b) % b := by
      intro x y z
      rw [Nat.add_mod (x + y % b), Nat.mod_mod, Nat.add_mod x (y % b), Nat.mod_mod, ← Nat.add_assoc, Nat.add_mod (x + y) z, Nat.add_mod x y]
    exact this _ _ _
  · rw [Nat.mod_mul, Nat.mod_mul, show A % P + P * (A / P % b) + (B % P + P * (B / P % b)) = A % P + B % P + P * (A / P % b + B / P % b) by rw [Nat.mul_add]; omega, ← Nat.div_div_eq_div_mul, Nat.add_mul_div_left _ _ hP, Nat.add_assoc]

theorem shl_step (A u P b : Nat) (hP : 0 < P) (hb : 0 < b) : (A * u) / P % b = (A / P % b * u + (A % P) * u / P) % b ∧ (A % (P * b)) * u / (P * b) = (A / P % b * u + (A % P) * u / P) / b := by
  constructor
  · have e : A * u = (A % P) * u + P * (A / P * u) := by
      have h1 := Nat.mod_add_div A P
      calc A * u = (A % P + P * (A / P)) * u := by rw [h1]
        _ = _ := by rw [Nat.add_mul, Nat.mul_assoc]
    rw [e, Nat.add_mul_div_left _ _ hP]
    have h : A / P % b * u % b = A / P * u % b := by rw [Nat.mul_mod, Nat.mod_mod, ← Nat.mul_mod]
    rw [Nat.add_comm, Nat.add_mod, ← h, ← Nat.add_mod]
  · rw [Nat.mod_mul, Nat.add_mul, Nat.mul_assoc, ← Nat.div_div_eq_div_mul, Nat.add_mul_div_left _ _ hP, Nat.add_comm]

theorem sub_step (A B P b : Nat) (hP : 0 < P) (hb : 0 < b) (h : B ≤ A) (c : Int) (hc : c = if A % P < B % P then 1 else 0) (s : Int) (hs : s = ((A / P % b : Nat) : Int) - c - ((B / P % b : Nat) : Int)) :
    (((A - B) / P % b : Nat) : Int) = (if s < 0 then s + b else s) ∧ (A % (P * b) < B % (P * b) ↔ s < 0) := by
  have m1 := Nat.mod_lt A hP
  have m2 := Nat.mod_lt B hP
  have a1 := Nat.mod_lt (A / P) hb
  have b1 := Nat.mod_lt (B / P) hb
  have hcc : c = 0 ∨ c = 1 := by rw [hc]; split <;> omega
  have hA := Nat.mod_add_div A P
  have hB := Nat.mod_add_div B P
  constructor
  · -- the quotient of the difference
    have hq : ∃ q : Nat, (q : Int) = ((A / P : Nat) : Int) - c - ((B / P : Nat) : Int) ∧ (A - B) / P = q := by
      have key : ((A - B : Nat) : Int) = (P : Int) * (((A / P : Nat) : Int) - c - ((B / P : Nat) : Int)) + (((A % P : Nat) : Int) - ((B % P : Nat) : Int) + c * P) := by
        rw [Int.ofNat_sub h]
        have h1 : (A : Int) = ((A % P : Nat) : Int) + (P : Int) * ((A / P : Nat) : Int) := by exact_mod_cast hA.symm
        have h2 : (B : Int) = ((B % P : Nat) : Int) + (P : Int) * ((B / P : Nat) : Int) := by exact_mod_cast hB.symm
        have h3 : c * (P : Int) = (P : Int) * c := Int.mul_comm _ _
        rw [Int.mul_sub, Int.mul_sub, h3]
        omega
      have hr : 0 ≤ ((A % P : Nat) : Int) - ((B % P : Nat) : Int) + c * P ∧ ((A % P : Nat) : Int) - ((B % P : Nat) : Int) + c * P < P := by
        rw [hc]
        split <;> omega
      have hnn : 0 ≤ ((A / P : Nat) : Int) - c - ((B / P : Nat) : Int) := by
        rcases Int.lt_or_le (((A / P : Nat) : Int) - c - ((B / P : Nat) : Int)) 0 with g | g
        · exfalso
          have : (P : Int) * (((A / P : Nat) : Int) - c - ((B / P : Nat) : Int)) ≤ (P : Int) * (-1) := Int.mul_le_mul_of_nonneg_left (by omega) (by omega)
          omega
        · exact g
      refine ⟨(((A / P : Nat) : Int) - c - ((B / P : Nat) : Int)).toNat, by omega, ?_⟩
      generalize hQ : ((A / P : Nat) : Int) - c - ((B / P : Nat) : Int) = Q at *
      generalize hR : ((A % P : Nat) : Int) - ((B % P : Nat) : Int) + c * P = R at *
      have e : A - B = P * Q.toNat + R.toNat := by
        have : ((A - B : Nat) : Int) = ((P * Q.toNat + R.toNat : Nat) : Int) := by
          rw [key, Int.natCast_add, Int.natCast_mul, Int.toNat_of_nonneg hnn, Int.toNat_of_nonneg hr.1]
        exact_mod_cast this
      rw [e, Nat.mul_add_div hP, Nat.div_eq_of_lt (by omega), Nat.add_zero]
    obtain ⟨q, hq1, hq2⟩ := hq
    rw [hq2]
    have dA := Nat.div_add_mod (A / P) b
    have dB := Nat.div_add_mod (B / P) b
    generalize A / P = qa at *
    generalize B / P = qb at *
    have e : (q : Int) = (b : Int) * (((qa / b : Nat) : Int) - ((qb / b : Nat) : Int)) + s := by
      have h1 : (qa : Int) = (b : Int) * ((qa / b : Nat) : Int) + ((qa % b : Nat) : Int) := by exact_mod_cast dA.symm
      have h2 : (qb : Int) = (b : Int) * ((qb / b : Nat) : Int) + ((qb % b : Nat) : Int) := by exact_mod_cast dB.symm
      rw [Int.mul_sub, hs]
      omega
    have e2 : ((q % b : Nat) : Int) = s % (b : Int) := by
      rw [Int.natCast_emod, e, Int.add_comm, Int.add_mul_emod_self_left]
    rw [e2]
    split
    · rename_i hneg
      rw [← Int.add_emod_right, Int.emod_eq_of_lt (by omega) (by omega)]
    · exact Int.emod_eq_of_lt (by omega) (by omega)
  · rw [Nat.mod_mul, Nat.mod_mul]
    have p1 : P * (A / P % b) + P ≤ P * (B / P % b) ∨ A / P % b = B / P % b ∨ P * (B / P % b) + P ≤ P * (A / P % b) := by
      rcases Nat.lt_trichotomy (A / P % b) (B / P % b) with g | g | g
      · exact .inl (by have := Nat.mul_le_mul_left P (show A / P % b + 1 ≤ B / P % b by omega); rw [Nat.mul_add] at this; omega)
      · exact .inr (.inl g)
      · exact .inr (.inr (by have := Nat.mul_le_mul_left P (show B / P % b + 1 ≤ A / P % b by omega); rw [Nat.mul_add] at this; omega))
    have g1 : A / P % b < B / P % b → P * (A / P % b) + P ≤ P * (B / P % b) := fun g => by have := Nat.mul_le_mul_left P (show A / P % b + 1 ≤ B / P % b by omega); rw [Nat.mul_add] at this; omega
    have g2 : B / P % b < A / P % b → P * (B / P % b) + P ≤ P * (A / P % b) := fun g => by have := Nat.mul_le_mul_left P (show B / P % b + 1 ≤ A / P % b by omega); rw [Nat.mul_add] at this; omega
    rcases Nat.lt_trichotomy (A / P % b) (B / P % b) with g | g | g
    · have := g1 g
      constructor <;> intro <;> omega
    · rw [g] at hs ⊢
      rw [hs, hc]
      split <;> constructor <;> intro <;> omega
    · have := g2 g
      constructor
      · intro; omega
      · intro hs0
        rw [hs, hc] at hs0
        split at hs0 <;> omega

theorem shr_digit (x y s : Nat) (hs : s < 30) (hx : x < 1073741824) : x / 2 ^ s + y % 2 ^ s * 2 ^ (30 - s) = (x / 2 ^ s + y * 2 ^ (30 - s)) % 1073741824 := by
  have hpp : 2 ^ s * 2 ^ (30 - s) = 1073741824 := by rw [← Nat.pow_add, show s + (30 - s) = 30 by omega]
  have h1 : y * 2 ^ (30 - s) % 1073741824 = y % 2 ^ s * 2 ^ (30 - s) := by rw [← hpp, Nat.mul_mod_mul_right]
  have h2 : x / 2 ^ s < 2 ^ (30 - s) := by
    rw [Nat.div_lt_iff_lt_mul (Nat.two_pow_pos s), Nat.mul_comm, hpp]
    exact hx
  have h3 : y % 2 ^ s * 2 ^ (30 - s) + 2 ^ (30 - s) ≤ 1073741824 := by
    have := Nat.mod_lt y (Nat.two_pow_pos s)
    have := Nat.mul_le_mul_right (2 ^ (30 - s)) (show y % 2 ^ s + 1 ≤ 2 ^ s by omega)
    rw [Nat.add_mul, hpp] at this
    omega
  have h4 : x / 2 ^ s < 1073741824 := by have := Nat.div_le_self x (2 ^ s); omega
  have h5 : (x / 2 ^ s + y * 2 ^ (30 - s)) % 1073741824 = (x / 2 ^ s % 1073741824 + y * 2 ^ (30 - s) % 1073741824) % 1073741824 := Nat.add_mod _ _ _
  rw [h5, h1, Nat.mod_eq_of_lt h4, Nat.mod_eq_of_lt (show x / 2 ^ s + y % 2 ^ s * 2 ^ (30 - s) < 1073741824 by omega)]

/-- The lowest bit that is set, found digit by digit. -/
theorem low_math (M : List Int) (hM : Dg M) (k : Nat) (hk : k < M.length) (hz : ∀ j, j < k → M.getD j 0 = 0) (v t : Nat) (ht : t < 30) (hv : v % 2 = 1) (hd : (M.getD k 0).toNat = v * 2 ^ t) : tzn (nv M) = 30 * k + t := by
  have e1 : nv M % 2 ^ (30 * k) = 0 := by
    have hT : nv (M.take k) = 0 := by
      refine (nv_zero _ (dg_take M hM k)).2 (fun i => ?_)
      rw [List.getD_eq_getElem?_getD, List.getElem?_take]
      split
      · have := hz i (by assumption)
        rw [List.getD_eq_getElem?_getD] at this
        exact this
      · rfl
    have hs := nv_append (M.take k) (M.drop k)
    rw [List.take_append_drop, hT, List.length_take, Nat.min_eq_left (by omega), Nat.zero_add] at hs
    rw [hs]
    exact Nat.mul_mod_right _ _
  have e2 := nv_getD M hM k
  rw [hd] at e2
  obtain ⟨Q, hQ⟩ : ∃ Q, nv M = 2 ^ (30 * k) * Q := ⟨nv M / 2 ^ (30 * k), by have := Nat.mod_add_div (nv M) (2 ^ (30 * k)); omega⟩
  rw [hQ, Nat.mul_div_cancel_left _ (Nat.two_pow_pos _)] at e2
  have e3 := Nat.mod_add_div Q 1073741824
  rw [← e2] at e3
  have hpp : 1073741824 = 2 ^ t * 2 ^ (30 - t) := by rw [← Nat.pow_add, show t + (30 - t) = 30 by omega]
  have e4 : Q = (v + 2 ^ (30 - t) * (Q / 1073741824)) * 2 ^ t := by
    rw [Nat.add_mul, Nat.mul_comm _ (2 ^ t), Nat.mul_comm (2 ^ (30 - t) * _), ← Nat.mul_assoc, ← hpp, Nat.mul_comm (2 ^ t)]
    omega
  have h2 : 2 ^ (30 - t) % 2 = 0 := by rw [show 30 - t = (29 - t) + 1 by omega, Nat.pow_succ]; omega
  have hodd : (v + 2 ^ (30 - t) * (Q / 1073741824)) % 2 = 1 := by
    rw [Nat.add_mod, Nat.mul_mod, h2, Nat.zero_mul, Nat.zero_mod, Nat.add_zero, hv]
  rw [hQ, e4, Nat.mul_comm, Nat.mul_assoc, ← Nat.pow_add, tzn_mul _ _ hodd]
  omega
end Go.Proofs.YtbffekcjdcihpaaDoor

namespace Go.Proofs.YtbffekcjdcihpaaDoor
open Go.ChangeShapes Go.WideShapes Go.ChangeAt Go.RowKit
set_option linter.unusedVariables false
set_option linter.unusedSimpArgs false

/-- A list that can be read. -/
def RL (w : World) (v : Value) (M : List Int) : Prop := ∃ ao c, v = .slice ao M.length c ∧ (ao = none → c = 0) ∧ Sl w (.slice ao M.length c) M
theorem RL.kept {w w' : World} {v : Value} {M : List Int} (h : RL w v M) (k : Kept w w') : RL w' v M := by
  obtain ⟨ao, c, e, hc, hs⟩ := h
  exact ⟨ao, c, e, hc, hs.kept k⟩
theorem RL.nil (w : World) : RL w (.slice none 0 0) [] := ⟨none, 0, rfl, fun _ => rfl, none, 0, rfl, Nat.le_refl _, by simp [maxLen], fun h => absurd rfl h⟩
/-- A list that can be read, with what is known of where it lies. -/
def RLp (P : Nat → Prop) (w : World) (v : Value) (M : List Int) : Prop := ∃ ao c, v = .slice ao M.length c ∧ (ao = none → c = 0) ∧ Sl w (.slice ao M.length c) M ∧ ∀ b off, M ≠ [] → ao = some ⟨b, off, none⟩ → P b
theorem RLp.rl {P : Nat → Prop} {w : World} {v : Value} {M : List Int} (h : RLp P w v M) : RL w v M := by
  obtain ⟨ao, c, e, hc, hs, -⟩ := h
  exact ⟨ao, c, e, hc, hs⟩
theorem RLp.kept {P : Nat → Prop} {w w' : World} {v : Value} {M : List Int} (h : RLp P w v M) (k : Kept w w') : RLp P w' v M := by
  obtain ⟨ao, c, e, hc, hs, hp⟩ := h
  exact ⟨ao, c, e, hc, hs.kept k, hp⟩
theorem RLp.imp {P Q : Nat → Prop} {w : World} {v : Value} {M : List Int} (h : RLp P w v M) (hpq : ∀ b, P b → Q b) : RLp Q w v M := by
  obtain ⟨ao, c, e, hc, hs, hp⟩ := h
  exact ⟨ao, c, e, hc, hs, fun b off hne he => hpq b (hp b off hne he)⟩
theorem RLp.nil (P : Nat → Prop) (w : World) : RLp P w (.slice none 0 0) [] := ⟨none, 0, rfl, fun _ => rfl, ⟨none, 0, rfl, Nat.le_refl _, by simp [maxLen], fun h => absurd rfl h⟩, fun b off h => absurd rfl h⟩
abbrev Fresh (n : Nat) : Nat → Prop := fun b => n ≤ b
theorem MR.rlp {H : Nat} {w : World} {v : Value} {M : List Int} (h : MR H w v M) : RLp (Fresh H) w v M := by
  rcases h with ⟨rfl, rfl⟩ | ⟨g, cap, rfl, hg, ho⟩
  · exact RLp.nil _ w
  · exact ⟨_, _, rfl, fun h => by simp at h, ho.sl, fun b off _ e => by cases e; exact hg⟩
theorem MR.rl {H : Nat} {w : World} {v : Value} {M : List Int} (h : MR H w v M) : RL w v M := h.sl
theorem RL.at {w : World} {v : Value} {M : List Int} (h : RL w v M) : ∃ ao c, v = .slice ao M.length c ∧ (ao = none → c = 0) ∧ ∀ u, Kept w u → RL u v M ∧ ∀ i, i < M.length → ∃ b off, ao = some ⟨b, off, none⟩ ∧ u.cell? ⟨b, off + i, none⟩ = some (.int .i64 (M.getD i 0)) := by
  obtain ⟨ao, c, rfl, hc, hs⟩ := h
  refine ⟨ao, c, rfl, hc, fun u k => ⟨⟨ao, c, rfl, hc, hs.kept k⟩, fun i hi => ?_⟩⟩
  obtain ⟨ao', cap, e, h1, h2, hr⟩ := hs.kept k
  cases e
  have hne : M ≠ [] := by intro e; subst e; simp at hi
  obtain ⟨b, off, rfl, hb, hr⟩ := hr hne
  exact ⟨b, off, rfl, hr i hi⟩

set_option maxHeartbeats 1000000 in
set_option maxRecDepth 100000 in
theorem trim_any (H : Nat) (w : World) (v : Value) (M : List Int) (hM : MR H w v M) (hD : Dg M) (hlen : M.length < 100000000) : Calls Tryd.prog 92 #[v] w fun e w' => (∃ r, e = .returned r ∧ RLp (Fresh H) w r (digs (nv M))) ∧ w = w' := by
  rcases hM with ⟨rfl, rfl⟩ | ⟨g, cap, rfl, hg, ho⟩
  · have e0 : digs (nv []) = [] := digs_zero
    rw [e0]
    have hr := RLp.nil (Fresh H) w
    go_enter Tryd.func92, Tryd.ntmps92
    go_wp2
    refine wp_loop_rounds 1 ?_
    rw [rounds_succ]
    go_wp2
    go_ret
    exact ⟨⟨_, rfl, hr⟩, rfl⟩
  · have hcap : M.length ≤ cap := by obtain ⟨_, _, h1, _⟩ := ho; exact h1
    have HO : Hid (Own w g cap M) := ho
    have HG : Hid (H ≤ g) := hg
    obtain ⟨n, hn⟩ : ∃ n, n = M.length := ⟨_, rfl⟩
    have HN : Hid (n = M.length) := hn
    have HD : Hid (Dg M) := hD
    rw [← hn] at hlen hcap ⊢
    clear ho hn hD
    go_enter Tryd.func92, Tryd.ntmps92
    go_wp2
    go_loopw [3] (fun i wr => ∃ k : Nat, k ≤ n ∧ i = .int .i64 k ∧ w = wr ∧ ∀ j, k ≤ j → M.getD j 0 = 0) (fun i _ => (intOf i).toNat)
    case atStart => exact ⟨n, Nat.le_refl _, rfl, rfl, fun j hj => by rw [List.getD_eq_getElem?_getD, List.getElem?_eq_none (by have := HN.out; omega)]; rfl⟩
    case round =>
      obtain ⟨k, hk, rfl, rfl, hz⟩ := hrel
      have HZ : Hid (∀ j, k ≤ j → M.getD j 0 = 0) := hz
      clear hz
      have fin : Hid ((k = 0 ∨ M.getD (k - 1) 0 ≠ 0) → RLp (Fresh H) w (.slice (some ⟨g, 0, none⟩) k cap) (digs (nv M))) := by
        intro hl
        have ht := trim_list M HD.out k (by rw [← HN.out]; exact hk) HZ.out hl
        have hlt : (M.take k).length = k := by rw [List.length_take]; have := HN.out; omega
        have hs := HO.out.slTake k (by rw [← HN.out]; exact hk)
        rw [← ht]
        exact ⟨some ⟨g, 0, none⟩, cap, by rw [hlt], fun h => by simp at h, by rw [hlt]; exact hs, fun b off _ e => by cases e; exact HG.out⟩
      rcases k with _ | k
      · have hf := fin.out (.inl rfl)
        have HF : Hid (RLp (Fresh H) w (.slice (some ⟨g, 0, none⟩) 0 cap) (digs (nv M))) := hf
        clear hf fin
        go_wp2
        go_ret
        exact ⟨⟨_, rfl, HF.out⟩, rfl⟩
      · have hc := HO.out.cell k (by rw [← HN.out]; omega)
        have z1 : IntKind.i64.wrap (((k + 1 : Nat) : Int) - 1) = (k : Int) := by rw [wrap_i64]; omega
        have z2 : ((k + 1 : Nat) : Int) - 1 = (k : Int) := by omega
        have z3 : (0 : Int) < ((k + 1 : Nat) : Int) := by omega
        have z4 : (k : Int) < (n : Int) := by omega
        by_cases hd : M.getD k 0 = 0
        · rw [hd] at hc
          clear fin
          go_wp2
          go_roundw
          case rel => exact ⟨k, by omega, by go_num, by first | rfl | trivial, fun j hj => by
            rcases Nat.lt_or_ge k j with h | h
            · exact HZ.out j h
            · rw [show j = k by omega]; exact hd⟩
          case measure => simp [intOf] <;> omega
        · have hf := fin.out (.inr (by rw [Nat.add_sub_cancel]; exact hd))
          have HF : Hid (RLp (Fresh H) w (.slice (some ⟨g, 0, none⟩) (k + 1) cap) (digs (nv M))) := hf
          clear hf fin
          generalize M.getD k 0 = d at *
          go_wp2
          go_ret
          exact ⟨⟨_, rfl, HF.out⟩, rfl⟩

def lowz (v : Nat) : Int := if v = 0 then -1 else (tzn v : Int)

set_option maxHeartbeats 1000000 in
set_option maxRecDepth 100000 in
theorem natLow_any (w : World) (v : Value) (M : List Int) (hM : RL w v M) (hD : Dg M) (hlen : M.length < 100000000) : Calls Tryd.prog 83 #[v] w fun e w' => e = .returned (.int .i64 (lowz (nv M))) ∧ w = w' := by
  obtain ⟨ao, c, rfl, -, hat⟩ := hM.at
  have HA : Hid (∀ i, i < M.length → ∃ b off, ao = some ⟨b, off, none⟩ ∧ w.cell? ⟨b, off + i, none⟩ = some (.int .i64 (M.getD i 0))) := (hat w (Kept.refl w)).2
  have HD : Hid (Dg M) := hD
  have HL : Hid ((∀ i, M.getD i 0 = 0) → lowz (nv M) = -1) := fun h => by rw [lowz, if_pos ((nv_zero M hD).2 h)]
  have HT : Hid (∀ k v t : Nat, k < M.length → (∀ j, j < k → M.getD j 0 = 0) → t < 30 → v % 2 = 1 → (M.getD k 0).toNat = v * 2 ^ t → lowz (nv M) = 30 * (k : Int) + (t : Int)) := by
    intro k v t hk hz ht hv hd
    have := low_math M hD k hk hz v t ht hv hd
    have hne : ¬ nv M = 0 := by
      intro h0
      have h1 := (nv_zero M hD).1 h0 k
      rw [h1] at hd
      have := Nat.two_pow_pos t
      have : 0 < v * 2 ^ t := Nat.mul_pos (by omega) this
      simp at hd
      omega
    rw [lowz, if_neg hne, this]
    omega
  have HZ : Hid (∀ j, M.length ≤ j → M.getD j 0 = 0) := fun j hj => by rw [List.getD_eq_getElem?_getD, List.getElem?_eq_none hj]; rfl
  generalize lowz (nv M) = R at *
  generalize M.length = n at *
  clear hM hat hD
  go_enter Tryd.func83, Tryd.ntmps83
  go_wp2
  go_loopw [3] (fun i wr => ∃ k : Nat, k ≤ n ∧ i = .int .i64 k ∧ w = wr ∧ ∀ j, j < k → M.getD j 0 = 0) (fun i _ => n - (intOf i).toNat)
  case atStart => exact ⟨0, Nat.zero_le _, rfl, rfl, fun j hj => by omega⟩
  case round =>
    obtain ⟨k, hk, rfl, rfl, hz⟩ := hrel
    have Hz : Hid (∀ j, j < k → M.getD j 0 = 0) := hz
    clear hz
    by_cases hkn : k < n
    · obtain ⟨b, off, rfl, hc⟩ := HA.out k hkn
      have hd := HD.out.getD k
      by_cases h0 : M.getD k 0 = 0
      · rw [h0] at hc
        go_wp2
        go_roundw
        case rel => exact ⟨k + 1, by omega, by go_num, by first | rfl | trivial, fun j hj => by
          rcases Nat.lt_or_ge j k with g | g
          · exact Hz.out j g
          · rw [show j = k by omega]; exact h0⟩
        case measure => simp [intOf] <;> omega
      · have HT2 : Hid (∀ v t : Nat, t < 30 → v % 2 = 1 → (M.getD k 0).toNat = v * 2 ^ t → R = 30 * (k : Int) + (t : Int)) := fun v t => HT.out k v t hkn Hz.out
        have z1 : IntKind.i64.wrap (30 * (k : Int)) = 30 * (k : Int) := by rw [wrap_i64]; omega
        generalize M.getD k 0 = d at *
        clear HT HA HD HL HZ Hz
        go_wp2
        go_loopw [4, 5] (fun kv vv wr => ∃ (t x : Nat), kv = .int .i64 (30 * (k : Int) + (t : Int)) ∧ vv = .int .i64 (x : Int) ∧ 0 < x ∧ x < 1073741824 ∧ t < 30 ∧ x * 2 ^ t = d.toNat ∧ w = wr) (fun _ vv _ => (intOf vv).toNat)
        case atStart => exact ⟨0, d.toNat, by simp, by rw [Int.toNat_of_nonneg hd.1], by omega, by omega, by omega, by simp, rfl⟩
        case round =>
          obtain ⟨t, x, rfl, rfl, hx0, hx1, ht, he, rfl⟩ := hrel
          have y1 : ((x : Int)).tmod 2 = ((x % 2 : Nat) : Int) := by rw [Int.tmod_eq_emod_of_nonneg (by omega)]; omega
          have y2 : ((x : Int)).tdiv 2 = ((x / 2 : Nat) : Int) := by rw [Int.tdiv_eq_ediv_of_nonneg (by omega)]; omega
          have y3 : IntKind.i64.wrap (30 * (k : Int) + (t : Int) + 1) = 30 * (k : Int) + ((t + 1 : Nat) : Int) := by rw [wrap_i64]; omega
          have HE : Hid (x * 2 ^ t = d.toNat) := he
          by_cases hodd : x % 2 = 1
          · have hR := HT2.out x t ht hodd he.symm
            subst hR
            rw [hodd] at y1
            clear he
            go_wp2
            go_ret
            exact ⟨rfl, rfl⟩
          · have hev : x % 2 = 0 := by omega
            rw [hev] at y1
            have ht2 : t + 1 < 30 := by
              rcases Nat.lt_or_ge (t + 1) 30 with g | g
              · exact g
              · exfalso
                have e29 : t = 29 := by omega
                subst e29
                have : 2 ≤ x := by omega
                have : 2 * 2 ^ 29 ≤ x * 2 ^ 29 := Nat.mul_le_mul_right _ this
                omega
            have he2 : x / 2 * 2 ^ (t + 1) = d.toNat := by
              rw [← he, Nat.pow_succ, Nat.mul_comm (2 ^ t), ← Nat.mul_assoc]
              congr 1
              omega
            have HE2 : Hid (x / 2 * 2 ^ (t + 1) = d.toNat) := he2
            clear he he2 HE
            go_wp2
            go_roundw
            case rel => exact ⟨t + 1, x / 2, by go_num, by go_num, by omega, by omega, ht2, HE2.out, by first | rfl | trivial⟩
            case measure => simp [intOf] <;> omega
    · obtain rfl : k = n := by omega
      have hR := HL.out (fun i => by
        rcases Nat.lt_or_ge i k with g | g
        · exact Hz.out i g
        · exact HZ.out i g)
      subst hR
      go_wp2
      go_ret
      exact ⟨rfl, rfl⟩
end Go.Proofs.YtbffekcjdcihpaaDoor
