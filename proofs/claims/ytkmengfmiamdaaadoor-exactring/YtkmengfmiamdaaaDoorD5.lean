/- A row of digits of the call's own; the walk of exact's form. -/
import Derived.Test.YtkmengfmiamdaaaDoorD4
namespace Go.Proofs.YtkmengfmiamdaaaDoor
open Go.ChangeShapes Go.WideShapes Go.ChangeAt Go.RowKit
set_option linter.unusedVariables false

def Own (w : World) (g cap : Nat) (L : List Int) : Prop := ∃ cur, w.heap[g]? = some (.cells cur 3 (0, 0)) ∧ L.length ≤ cap ∧ cap ≤ maxLen ∧ cur.size = cap ∧ cur.toList.take L.length = L.map (Value.int .i64)
structure Grw (g : Nat) (w w' : World) : Prop where
  grown : w.grownBy w' (some g)
  frozen : ∀ a, w'.frozen? a = w.frozen? a

theorem Grw.refl (g : Nat) (w : World) : Grw g w w := ⟨World.grownBy.refl _ _, fun _ => rfl⟩
theorem Grw.trans {g : Nat} {a b c : World} (h : Grw g a b) (k : Grw g b c) : Grw g a c :=
  ⟨⟨k.grown.os.trans h.grown.os, k.grown.tape.trans h.grown.tape, k.grown.output.trans h.grown.output, Nat.le_trans h.grown.size k.grown.size, fun i hi hne => (k.grown.block i (Nat.lt_of_lt_of_le hi h.grown.size) hne).trans (h.grown.block i hi hne)⟩, fun x => (k.frozen x).trans (h.frozen x)⟩
theorem Kept.toGrw {a b : World} (g : Nat) (h : Kept a b) : Grw g a b := ⟨⟨h.below.os, h.below.tape, h.below.output, h.below.size, fun i hi _ => h.below.block i hi⟩, h.frozen⟩
theorem Kept.grw {a b c : World} {g : Nat} (h : Kept a b) (hg : a.heap.size ≤ g) (k : Grw g b c) : Kept a c :=
  ⟨h.below.grown k.grown h.below.size (fun i e => by cases e; exact hg), fun x => (k.frozen x).trans (h.frozen x)⟩
theorem Grw.setCell {g : Nat} {a b : World} (h : Grw g a b) (j : Nat) (u : Value) : Grw g a (b.setCell ⟨g, j, none⟩ u) :=
  ⟨⟨h.grown.os, h.grown.tape, h.grown.output, by simpa using h.grown.size, fun i hi hne => (Below.heap_setCell b ⟨g, j, none⟩ u i (fun e => hne (by rw [e]))).trans (h.grown.block i hi hne)⟩, fun x => (World.frozen?_setCell _ _ _ _).trans (h.frozen x)⟩

theorem Own.lt {w : World} {g cap : Nat} {L : List Int} (h : Own w g cap L) : g < w.heap.size := by
  obtain ⟨cur, hg, -⟩ := h
  exact lt_of_block hg
theorem Own.kept {w w' : World} {g cap : Nat} {L : List Int} (h : Own w g cap L) (k : Kept w w') : Own w' g cap L := by
  have hl := h.lt
  obtain ⟨cur, hg, r⟩ := h
  exact ⟨cur, (k.below.block g hl).trans hg, r⟩
theorem Own.grw {w w' : World} {g g' cap : Nat} {L : List Int} (h : Own w g cap L) (k : Grw g' w w') (hne : g ≠ g') : Own w' g cap L := by
  have hl := h.lt
  obtain ⟨cur, hg, r⟩ := h
  exact ⟨cur, (k.grown.block g hl (by simpa using hne)).trans hg, r⟩
theorem Own.cell {w : World} {g cap : Nat} {L : List Int} (h : Own w g cap L) (i : Nat) (hi : i < L.length) : w.cell? ⟨g, i, none⟩ = some (.int .i64 (L.getD i 0)) := by
  obtain ⟨cur, hg, h1, h2, h3, h4⟩ := h
  rw [cell_of_row w g i cur 3 (0, 0) hg]
  have : (cur.toList.take L.length)[i]? = (L.map (Value.int .i64))[i]? := by rw [h4]
  rw [List.getElem?_take, if_pos hi, List.getElem?_map, List.getElem?_eq_getElem hi] at this
  rw [List.getD_eq_getElem?_getD, List.getElem?_eq_getElem hi]
  simpa using this
theorem Own.reads {w : World} {g cap : Nat} {L : List Int} (h : Own w g cap L) : Reads w g 0 L := fun i hi => by rw [Nat.zero_add]; exact h.cell i hi
theorem Own.free {w : World} {g cap : Nat} {L : List Int} (h : Own w g cap L) (i : Nat) : w.frozen? ⟨g, i, none⟩ = false := by
  obtain ⟨cur, hg, -⟩ := h
  exact frozen_of_row w g i cur 3 hg
theorem Own.set {w : World} {g cap : Nat} {L : List Int} (h : Own w g cap L) (i : Nat) (d : Int) : Own (w.setCell ⟨g, i, none⟩ (.int .i64 d)) g cap (L.set i d) := by
  obtain ⟨cur, hg, h1, h2, h3, h4⟩ := h
  refine ⟨cur.setIfInBounds i (.int .i64 d), heap_setCell_same w g i cur 3 _ hg, by simpa using h1, h2, by simpa using h3, ?_⟩
  rw [Array.toList_setIfInBounds, List.length_set, List.take_set, h4, List.map_set]
theorem Own.take {w : World} {g cap : Nat} {L : List Int} (h : Own w g cap L) (n : Nat) (hn : n ≤ L.length) : Own w g cap (L.take n) := by
  obtain ⟨cur, hg, h1, h2, h3, h4⟩ := h
  refine ⟨cur, hg, by simp; omega, h2, h3, ?_⟩
  rw [List.length_take, Nat.min_eq_left hn, List.map_take, ← h4, List.take_take, Nat.min_eq_left hn]
theorem Own.sl {w : World} {g cap : Nat} {L : List Int} (h : Own w g cap L) : Sl w (.slice (some ⟨g, 0, none⟩) L.length cap) L := by
  have hr := h.reads
  have hl := h.lt
  obtain ⟨cur, hg, h1, h2, h3, h4⟩ := h
  exact ⟨_, _, rfl, h1, h2, fun _ => ⟨g, 0, rfl, hl, hr⟩⟩
theorem Own.slTake {w : World} {g cap : Nat} {L : List Int} (h : Own w g cap L) (n : Nat) (hn : n ≤ L.length) : Sl w (.slice (some ⟨g, 0, none⟩) n cap) (L.take n) := by
  have := (h.take n hn).sl
  rw [List.length_take, Nat.min_eq_left hn] at this
  exact this

abbrev zeroNum : Value := .agg #[.bool false, .slice none 0 0, .int .i64 0]

set_option maxHeartbeats 1000000 in
theorem form_zero (neg : Bool) (L : List Int) (hlen : L.length < 100000000) (hz : ∀ j, L.getD j 0 = 0) (g cap : Nat) (x : Int) (w : World) (h : Own w g cap L) : Calls Tryd.prog 51 #[.bool neg, .slice (some ⟨g, 0, none⟩) L.length cap, .int .i64 x] w fun e w' => e = .returned zeroNum ∧ Kept w w' := by
  have hK := (Kept.refl w).alloc #[.bool false, .slice none 0 0, .int .i64 0] 31
  have HC : Hid (∀ j, j < L.length → (w.alloc (.cells #[.bool false, .slice none 0 0, .int .i64 0] 31)).cell? ⟨g, j, none⟩ = some (.int .i64 0)) := fun j hj => by
    have := (h.kept hK).cell j hj
    rw [hz j] at this
    exact this
  generalize L.length = n at *
  clear h hz
  go_enter Tryd.func51, Tryd.ntmps51
  go_wp2
  go_loop [7] (fun i => ∃ k : Nat, k ≤ n ∧ i = .int .i64 k) (fun i => (intOf i).toNat)
  case atStart => exact ⟨n, Nat.le_refl _, rfl⟩
  case round =>
    obtain ⟨k, hk, rfl⟩ := hrel
    rcases k with _ | k
    · go_wp2
      exact bodyPost_ret (v := zeroNum) (by simp [results, Tryd.results51, go_sem]) rfl ⟨rfl, hK⟩
    · have hc := HC.out k (by omega)
      go_wp2
      go_round
      case rel => exact ⟨k, by omega, by go_num⟩
      case measure => simp [intOf]

set_option maxHeartbeats 1000000 in
theorem form_nil (neg : Bool) (ao : Option Addr) (cap : Nat) (x : Int) (w : World) : Calls Tryd.prog 51 #[.bool neg, .slice ao 0 cap, .int .i64 x] w fun e w' => e = .returned zeroNum ∧ Kept w w' := by
  go_enter Tryd.func51, Tryd.ntmps51
  go_wp2
  refine wp_loop_rounds 1 ?_
  rw [rounds_succ]
  go_wp2
  exact bodyPost_ret (v := zeroNum) (by simp [results, Tryd.results51, go_sem]) rfl ⟨rfl, (Kept.refl _).alloc _ _⟩

theorem Grw.setNew {g : Nat} {a b : World} (h : Grw g a b) {p : Addr} (hp : a.heap.size ≤ p.block) (u : Value) : Grw g a (b.setCell p u) :=
  ⟨⟨h.grown.os, h.grown.tape, h.grown.output, by simpa using h.grown.size, fun i hi hne => (Below.heap_setCell b p u i (fun e => by omega)).trans (h.grown.block i hi hne)⟩, fun x => (World.frozen?_setCell _ _ _ _).trans (h.frozen x)⟩
theorem Own.setOther {w : World} {g cap : Nat} {L : List Int} (h : Own w g cap L) {p : Addr} (hp : g ≠ p.block) (u : Value) : Own (w.setCell p u) g cap L := by
  obtain ⟨cur, hg, r⟩ := h
  exact ⟨cur, (Below.heap_setCell w p u g hp).trans hg, r⟩

theorem grw_new {g : Nat} {w wr : World} {o : Obj} (h : Grw g (w.alloc o) wr) (hne : g ≠ w.heap.size) (j : Nat) : wr.cell? ⟨w.heap.size, j, none⟩ = (w.alloc o).cell? ⟨w.heap.size, j, none⟩ ∧ wr.frozen? ⟨w.heap.size, j, none⟩ = (w.alloc o).frozen? ⟨w.heap.size, j, none⟩ :=
  have hb := h.grown.block w.heap.size (by simp) (by simpa using fun e => hne e.symm)
  ⟨World.cell?_of_block (a := ⟨w.heap.size, j, none⟩) hb, World.frozen?_of_block (a := ⟨w.heap.size, j, none⟩) hb⟩
theorem dig_take (L M : List Int) (k c q : Nat) (hM : k < M.length) (hz : ∀ j, k < j → L.getD j 0 = 0) (hh : ∀ j, c ≤ j → M.getD j 0 = L.getD j 0) (hq : c ≤ q) : dig (M.take (k + 1)) (q : Int) = dig L (q : Int) := by
  unfold dig
  rw [if_pos (by omega), if_pos (by omega), Int.toNat_natCast, ← hh q hq]
  by_cases h : q < k + 1
  · rw [List.getD_eq_getElem?_getD, List.getD_eq_getElem?_getD, List.getElem?_take, if_pos h]
  · rw [hh q hq, hz q (by omega), List.getD_eq_getElem?_getD, List.getElem?_eq_none (by simp; omega)]
    rfl
theorem pcq_take (L M : List Int) (k c q s : Nat) (hM : k < M.length) (hz : ∀ j, k < j → L.getD j 0 = 0) (hh : ∀ j, c ≤ j → M.getD j 0 = L.getD j 0) (hq : c ≤ q) : pcq (M.take (k + 1)) (q : Int) s = pcq L (q : Int) s := by
  unfold pcq
  rw [dig_take L M k c q hM hz hh hq, show ((q : Int) + 1) = ((q + 1 : Nat) : Int) by omega, dig_take L M k c (q + 1) hM hz hh (by omega)]
theorem getD_set (M : List Int) (c j : Nat) (d : Int) (hc : c < M.length) : (M.set c d).getD j 0 = if c = j then d else M.getD j 0 := by
  rw [List.getD_eq_getElem?_getD, List.getD_eq_getElem?_getD, List.getElem?_set]
  by_cases h : c = j
  · subst h; simp [hc]
  · simp [h]

set_option maxHeartbeats 2000000 in
set_option maxRecDepth 100000 in
theorem form_main (neg : Bool) (L : List Int) (hlen : L.length < 100000000) (m : Nat) (hm : m < L.length) (hz : ∀ j, m < j → L.getD j 0 = 0) (hne : L.getD m 0 ≠ 0) (g cap : Nat) (x y : Int) (Z BL C : Nat) (lg : Int) (hlg : (BL : Int) - (Z : Int) = lg) (hC : (lg + 30 - 1) / 30 = (C : Int)) (hlg0 : 0 < lg) (hlg1 : lg ≤ 60000) (hy0 : wrap64 (x + (Z : Int)) = y) (hy1 : -1048576 ≤ y) (hy2 : y ≤ 1048576) (hZ : Z < 2000000000) (hBL : BL < 3000000000) (hCm : C ≤ m + 1) (w : World) (h : Own w g cap L)
    (KT : Hid (Calls Tryd.prog 79 #[.slice (some ⟨g, 0, none⟩) L.length cap] (w.alloc (.cells #[.bool false, .slice none 0 0, .int .i64 0] 31)) fun e w' => e = .returned (.int .i64 (Z : Int)) ∧ (w.alloc (.cells #[.bool false, .slice none 0 0, .int .i64 0] 31)) = w'))
    (KL : Hid (Calls Tryd.prog 76 #[.slice (some ⟨g, 0, none⟩) (m + 1) cap] (w.alloc (.cells #[.bool false, .slice none 0 0, .int .i64 0] 31)) fun e w' => e = .returned (.int .i64 (BL : Int)) ∧ (w.alloc (.cells #[.bool false, .slice none 0 0, .int .i64 0] 31)) = w')) : Calls Tryd.prog 51 #[.bool neg, .slice (some ⟨g, 0, none⟩) L.length cap, .int .i64 x] w fun e w' => ∃ M, e = .returned (.agg #[.bool neg, .slice (some ⟨g, 0, none⟩) C cap, .int .i64 y]) ∧ Own w' g cap M ∧ C ≤ M.length ∧ (∀ j, j < C → M.getD j 0 = pcq L ((Z / 30 + j : Nat) : Int) (Z % 30)) ∧ Grw g w w' := by
  have hK := (Kept.refl w).alloc #[.bool false, .slice none 0 0, .int .i64 0] 31
  have HO : Hid (Own (w.alloc (.cells #[.bool false, .slice none 0 0, .int .i64 0] 31)) g cap L) := h.kept hK
  have HC : Hid (∀ j, j < L.length → (w.alloc (.cells #[.bool false, .slice none 0 0, .int .i64 0] 31)).cell? ⟨g, j, none⟩ = some (.int .i64 (L.getD j 0))) := fun j hj => (h.kept hK).cell j hj
  have hgl := h.lt
  have hcap : L.length ≤ cap := by obtain ⟨_, _, h1, _⟩ := h; exact h1
  obtain ⟨n, hn⟩ : ∃ n, n = L.length := ⟨_, rfl⟩
  have HN : Hid (n = L.length) := hn
  rw [← hn] at hlen hm HC KT hcap ⊢
  have HZ : Hid (∀ j, m < j → L.getD j 0 = 0) := hz
  clear h hz hn
  go_enter Tryd.func51, Tryd.ntmps51
  go_wp2
  go_loop [7] (fun i => ∃ k : Nat, k ≤ n ∧ m < k ∧ i = .int .i64 k) (fun i => (intOf i).toNat)
  case atStart => exact ⟨n, Nat.le_refl _, hm, rfl⟩
  case round =>
    obtain ⟨k, hk, hmk, rfl⟩ := hrel
    obtain ⟨k, rfl⟩ : ∃ j, k = j + 1 := ⟨k - 1, by omega⟩
    have hc := HC.out k (by omega)
    by_cases hkm : m < k
    · rw [HZ.out k hkm] at hc
      go_wp2
      go_round
      case rel => exact ⟨k, by omega, hkm, by go_num⟩
      case measure => simp [intOf]
    · obtain rfl : k = m := by omega
      have hne2 : (L.getD k 0 == 0) = false := by simpa using hne
      generalize L.getD k 0 = d at *
      go_wp2_with (first | (go_at_call 79; refine KT.out.mono ?_; rintro e w1 ⟨rfl, rfl⟩) | (go_at_call 76; refine KL.out.mono ?_; rintro e w1 ⟨rfl, rfl⟩) | (go_at_call 75; refine (fit_yes _ _ (by omega) (by omega) (by omega) _).mono ?_; rintro e w1 ⟨rfl, rfl⟩))
      rw [hC]
      have hC2 : C ≤ 2001 := by omega
      clear hC
      go_loopw [47] (fun i wr => ∃ (c : Nat) (M : List Int), c ≤ C ∧ i = .int .i64 c ∧ Own wr g cap M ∧ M.length = n ∧ (∀ j, j < c → M.getD j 0 = pcq L ((Z / 30 + j : Nat) : Int) (Z % 30)) ∧ (∀ j, c ≤ j → M.getD j 0 = L.getD j 0) ∧ Grw g (w.alloc (.cells #[.bool false, .slice none 0 0, .int .i64 0] 31)) wr) (fun i _ => C - (intOf i).toNat)
      case atStart => exact ⟨0, L, Nat.zero_le _, rfl, HO.out, HN.out.symm, fun j h => by omega, fun j _ => rfl, Grw.refl _ _⟩
      case round =>
        obtain ⟨c, M, hc0, rfl, hO, hMl, hlo, hhi, hG⟩ := hrel
        have HG : Hid (Grw g (w.alloc (.cells #[.bool false, .slice none 0 0, .int .i64 0] 31)) wr) := hG
        have HL : Hid (∀ j, j < c → M.getD j 0 = pcq L ((Z / 30 + j : Nat) : Int) (Z % 30)) := hlo
        have HH : Hid (∀ j, c ≤ j → M.getD j 0 = L.getD j 0) := hhi
        have HM : Hid (M.length = n) := hMl
        by_cases hcC : c < C
        · have KP : Hid (Calls Tryd.prog 78 #[.slice (some ⟨g, 0, none⟩) (k + 1) cap, .int .i64 ((Z : Int) + (c : Int) * 30)] wr fun e w' => e = .returned (.int .i64 (pcq L ((Z / 30 + c : Nat) : Int) (Z % 30))) ∧ Kept wr w') := by
            have := piece_at (M.take (k + 1)) _ ((Z / 30 + c : Nat) : Int) (Z % 30) (by omega) (by omega) (by omega) ((Z : Int) + (c : Int) * 30) (by omega) (.inl (by omega)) wr (hO.slTake (k + 1) (by omega))
            rw [pcq_take L M k c (Z / 30 + c) (Z % 30) (by omega) HZ.out hhi (by omega)] at this
            exact this
          generalize hpv : pcq L ((Z / 30 + c : Nat) : Int) (Z % 30) = pv at KP
          have HP : Hid (pcq L ((Z / 30 + c : Nat) : Int) (Z % 30) = pv) := hpv
          have HO2 : Hid (Own wr g cap M) := hO
          clear hO hMl hlo hhi hG HO HC hc KT KL hK hpv
          go_wp2_with (first | (go_at_call 78; refine KP.out.mono ?_; rintro e w2 ⟨rfl, hk2⟩; have hO2 := HO2.out.kept hk2; have hcc := hO2.cell c (by have := HM.out; omega); have hff := hO2.free c))
          go_roundw
          case rel =>
            have hO2 := HO2.out.kept hk2
            refine ⟨c + 1, M.set c pv, by omega, by go_num, hO2.set c pv, by rw [List.length_set]; exact HM.out, fun j hj => ?_, fun j hj => ?_, (HG.out.trans (hk2.toGrw g)).setCell _ _⟩
            · rw [getD_set M c j pv (by have := HM.out; omega)]
              by_cases hcj : c = j
              · rw [if_pos hcj, ← hcj]; exact HP.out.symm
              · rw [if_neg hcj]; exact HL.out j (by omega)
            · rw [getD_set M c j pv (by have := HM.out; omega), if_neg (by omega)]
              exact HH.out j (by omega)
          case measure => simp [intOf]; omega
        · obtain rfl : c = C := by omega
          have hgn : g ≠ w.heap.size := by omega
          have hb0 : wr.cell? ⟨w.heap.size, 0, none⟩ = some (.bool false) := (grw_new hG hgn 0).1.trans (by simp [go_sem])
          have hb1 : wr.cell? ⟨w.heap.size, 1, none⟩ = some (.slice none 0 0) := (grw_new hG hgn 1).1.trans (by simp [go_sem])
          have hb2 : wr.cell? ⟨w.heap.size, 2, none⟩ = some (.int .i64 0) := (grw_new hG hgn 2).1.trans (by simp [go_sem])
          have hf : ∀ o, wr.frozen? ⟨w.heap.size, o, none⟩ = false := fun o => (grw_new hG hgn o).2.trans (by simp [go_sem])
          have HO2 : Hid (Own wr g cap M) := hO
          have HK : Hid (Kept w (w.alloc (.cells #[.bool false, .slice none 0 0, .int .i64 0] 31))) := hK
          clear hO hMl hlo hhi hG HO HC hc KT KL hK
          go_wp2
          refine bodyPost_ret (v := .agg #[.bool neg, .slice (some ⟨g, 0, none⟩) c cap, .int .i64 y]) (by simp [results, Tryd.results51, go_sem, hb0, hb1, hb2]) rfl ⟨M, rfl, ((HO2.out.setOther (by simpa using hgn) _).setOther (by simpa using hgn) _).setOther (by simpa using hgn) _, by have := HM.out; omega, HL.out, ?_⟩
          exact (((((HK.out.toGrw g).trans HG.out).setNew (by simp) _).setNew (by simp) _).setNew (by simp) _)
end Go.Proofs.YtkmengfmiamdaaaDoor
