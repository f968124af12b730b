/- make, bare, matrix, rowOf of package tensor. -/
import Derived.Test.YtojhhimmfnccjaaT1
namespace Go.Proofs.Ytojhhimmfnccjaa
open Go.ChangeShapes Go.WideShapes Go.ChangeAt Go.RowKit
set_option linter.unusedVariables false
set_option linter.unusedSimpArgs false

theorem make_run (l n : Nat) (hl : l ≤ n) (hn : n < 100000000) (w : World) : (Instr.makeSlice 22 (.int .i64 (l : Int)) (.int .i64 (n : Int))).run Try.prog w = .ok (.slice (some ⟨w.heap.size, 0, none⟩) l n) (w.alloc (.cells (madeCells #[.int .i64 0] n) 3)) := by
  obtain ⟨i, hi, hz, hs, hby⟩ := info_parts (int_info)
  have := run_make (P := Try.prog) w 22 3 i (.int .i64 0) li_under hi hz .i64 .i64 (l : Int) (n : Int) (by omega) (by omega) (by rw [hby]; omega) (by omega)
  rw [hs, Int.toNat_natCast, Int.toNat_natCast, Nat.mul_one] at this
  exact this
theorem own_made (l n : Nat) (hl : l ≤ n) (hn : n < 100000000) (w : World) : Own (w.alloc (.cells (madeCells #[.int .i64 0] n) 3)) w.heap.size n (List.replicate l 0) := by
  refine ⟨_, heap_alloc_new w _, by simpa using hl, by simp [maxLen]; omega, by simp [size_madeCells], ?_⟩
  rw [List.length_replicate, toList_madeCells_one]
  simp [List.take_replicate, Nat.min_eq_left hl]

theorem Grw.cellx {g : Nat} {a b : World} (h : Grw g a b) (B o : Nat) (hB : B < a.heap.size) (hne : B ≠ g) : b.cell? ⟨B, o, none⟩ = a.cell? ⟨B, o, none⟩ :=
  World.cell?_of_block (w := a) (a := ⟨B, o, none⟩) (h.grown.block B hB (by simpa using hne))
theorem Grw.size {g : Nat} {a b : World} (h : Grw g a b) : a.heap.size ≤ b.heap.size := h.grown.size

/-- The first k elements told. -/
def clk (n : Int) (L : List Int) (k : Nat) : List Int := (L.take k).map (cln · n) ++ L.drop k
theorem clk_length (n : Int) (L : List Int) (k : Nat) : (clk n L k).length = L.length := by
  unfold clk
  rw [List.length_append, List.length_map, ← List.length_append, List.take_append_drop]
theorem clk_zero (n : Int) (L : List Int) : clk n L 0 = L := by simp [clk]
theorem clk_all (n : Int) (L : List Int) : clk n L L.length = L.map (cln · n) := by simp [clk]
theorem clk_get (n : Int) (L : List Int) (k : Nat) (hk : k < L.length) : (clk n L k).getD k 0 = L.getD k 0 := by
  unfold clk
  rw [List.getD_eq_getElem?_getD, List.getD_eq_getElem?_getD, List.getElem?_append_right (by simp; omega)]
  simp [Nat.min_eq_left (Nat.le_of_lt hk)]
theorem clk_set (n : Int) (L : List Int) (k : Nat) (hk : k < L.length) : (clk n L k).set k (cln (L.getD k 0) n) = clk n L (k + 1) := by
  unfold clk
  have h1 : (List.map (fun x => cln x n) (L.take k)).length = k := by simp; omega
  rw [List.set_append_right _ _ (by omega), h1, Nat.sub_self, List.drop_eq_getElem_cons hk, List.set_cons_zero, List.take_succ_eq_append_getElem hk, List.map_append, List.append_assoc, List.getD_eq_getElem?_getD, List.getElem?_eq_getElem hk]
  rfl

/-- Every element is an int. -/
def Rgl (L : List Int) : Prop := ∀ i, i < L.length → -9223372036854775808 ≤ L.getD i 0 ∧ L.getD i 0 ≤ 9223372036854775807

theorem res4 (w : World) (B : Nat) (a b c d : Value) (h : M4 w B a b c d) (x y z u : Value) : M4 ((((w.setCell ⟨B, 0, none⟩ x).setCell ⟨B, 1, none⟩ y).setCell ⟨B, 2, none⟩ z).setCell ⟨B, 3, none⟩ u) B x y z u := by
  obtain ⟨c0, c1, c2, c3⟩ := h
  exact ⟨by simp [go_sem, *], by simp [go_sem, *], by simp [go_sem, *], by simp [go_sem, *]⟩

set_option maxHeartbeats 2000000 in
set_option maxRecDepth 100000 in
theorem matrix_any (r c n : Int) (hn : n = 64 ∨ n = 32) (L : List Int) (hL : Rgl L) (hlen : L.length ≤ 100000) (g cap : Nat) (w : World) (ho : Own w g cap L) : Calls Try.prog 69 #[.agg #[.int .i64 r, .int .i64 c, .int .i64 n], .slice (some ⟨g, 0, none⟩) L.length cap] w fun e w' => e = .returned (.agg #[.int .i64 r, .int .i64 c, .int .i64 n, .slice (some ⟨g, 0, none⟩) L.length cap]) ∧ Own w' g cap (L.map (cln · n)) ∧ Grw g w w' := by
  have KT : Hid (∀ u i, i < L.length → Calls Try.prog 77 #[.int .i64 (L.getD i 0), .int .i64 n] u fun e w' => e = .returned (.int .i64 (cln (L.getD i 0) n)) ∧ Kept u w') := fun u i hi => told_any _ n hn (hL i hi).1 (hL i hi).2 u
  obtain ⟨W, hW⟩ : ∃ W, W = (w.alloc (.cells #[.int .i64 r, .int .i64 c, .int .i64 n] 60)).alloc (.cells #[.int .i64 0, .int .i64 0, .int .i64 0, .slice none 0 0] 25) := ⟨_, rfl⟩
  have hK : Kept w W := by rw [hW]; exact ((Kept.refl w).alloc _ _).alloc _ _
  have hWs : W.heap.size = w.heap.size + 2 := by rw [hW]; simp
  have hgl := ho.lt
  have HS : Hid (∀ u, Grw g W u → u.cell? ⟨w.heap.size, 0, none⟩ = some (.int .i64 r) ∧ u.cell? ⟨w.heap.size, 1, none⟩ = some (.int .i64 c) ∧ u.cell? ⟨w.heap.size, 2, none⟩ = some (.int .i64 n)) := fun u k => ⟨(k.cellx w.heap.size 0 (by omega) (by omega)).trans (by rw [hW]; simp [go_sem]), (k.cellx w.heap.size 1 (by omega) (by omega)).trans (by rw [hW]; simp [go_sem]), (k.cellx w.heap.size 2 (by omega) (by omega)).trans (by rw [hW]; simp [go_sem])⟩
  have HR : Hid (∀ u, Grw g W u → M4 u (w.heap.size + 1) (.int .i64 0) (.int .i64 0) (.int .i64 0) (.slice none 0 0) ∧ ∀ o, u.frozen? ⟨w.heap.size + 1, o, none⟩ = false) := fun u k => by
    refine ⟨⟨(k.cellx (w.heap.size + 1) 0 (by omega) (by omega)).trans (by rw [hW]; simp [go_sem]), (k.cellx (w.heap.size + 1) 1 (by omega) (by omega)).trans (by rw [hW]; simp [go_sem]), (k.cellx (w.heap.size + 1) 2 (by omega) (by omega)).trans (by rw [hW]; simp [go_sem]), (k.cellx (w.heap.size + 1) 3 (by omega) (by omega)).trans (by rw [hW]; simp [go_sem])⟩, fun o => (k.frozen _).trans (by rw [hW]; simp [go_sem])⟩
  have HO : Hid (Own W g cap L) := ho.kept hK
  clear hL ho
  go_enter Try.func69, Try.ntmps69
  go_wp2
  rw [← hW]
  clear hW
  obtain ⟨l, hl⟩ : ∃ l, L.length = l := ⟨_, rfl⟩
  have HL : Hid (L.length = l) := hl
  rw [hl]
  have hl2 : l ≤ 100000 := by omega
  clear hl hlen
  go_loopw [9] (fun iv wr => ∃ k : Nat, k ≤ l ∧ iv = .int .i64 k ∧ Own wr g cap (clk n L k) ∧ Grw g W wr) (fun iv _ => l - (intOf iv).toNat)
  case atStart => exact ⟨0, Nat.zero_le _, rfl, by rw [clk_zero]; exact HO.out, Grw.refl _ _⟩
  case round =>
    obtain ⟨k, hk, rfl, hO, hG⟩ := hrel
    by_cases hkl : k < l
    · have hkL : k < L.length := by rw [HL.out]; exact hkl
      have q0 := hO.cell k (by rw [clk_length]; exact hkL)
      rw [clk_get n L k hkL] at q0
      obtain ⟨s0, s1, s2⟩ := HS.out _ hG
      have KT2 : Hid (∀ u, Calls Try.prog 77 #[.int .i64 (L.getD k 0), .int .i64 n] u fun e w' => e = .returned (.int .i64 (cln (L.getD k 0) n)) ∧ Kept u w') := fun u => KT.out u k hkL
      have HN : Hid (∀ u, Kept wr u → Own (u.setCell ⟨g, k, none⟩ (.int .i64 (cln (L.getD k 0) n))) g cap (clk n L (k + 1)) ∧ u.cell? ⟨g, k, none⟩ = some (.int .i64 (L.getD k 0)) ∧ u.frozen? ⟨g, k, none⟩ = false) := fun u ku => by
        have h1 := (hO.kept ku).set k (cln (L.getD k 0) n)
        rw [clk_set n L k hkL] at h1
        exact ⟨h1, (ku.below.cell (p := ⟨g, k, none⟩) hO.lt).trans q0, (hO.kept ku).free k⟩
      have z1 : IntKind.i64.wrap ((k : Int) + 1) = (k : Int) + 1 := by rw [wrap_i64]; omega
      generalize cln (L.getD k 0) n = d2 at *
      generalize L.getD k 0 = d at *
      clear hO HO HL hkL KT
      go_wp2_with (first | (go_at_call 77; refine (KT2.out _).mono ?_; rintro e w1 ⟨rfl, k1⟩; obtain ⟨HN1, q1, q2⟩ := HN.out _ k1))
      go_roundw
      case rel => exact ⟨k + 1, by omega, by go_num, HN1, (hG.trans (k1.toGrw g)).setCell _ _⟩
      case measure => simp [intOf]; omega
    · obtain rfl : k = l := by omega
      obtain ⟨s0, s1, s2⟩ := HS.out _ hG
      obtain ⟨hR, f0⟩ := HR.out _ hG
      have hR' := res4 wr _ _ _ _ _ hR (.int .i64 r) (.int .i64 c) (.int .i64 n) (.slice (some ⟨g, 0, none⟩) k cap)
      obtain ⟨r0, r1, r2, r3⟩ := hR
      obtain ⟨p0, p1, p2, p3⟩ := hR'
      rw [← HL.out, clk_all] at hO
      have hfin : Own ((((wr.setCell ⟨w.heap.size + 1, 0, none⟩ (.int .i64 r)).setCell ⟨w.heap.size + 1, 1, none⟩ (.int .i64 c)).setCell ⟨w.heap.size + 1, 2, none⟩ (.int .i64 n)).setCell ⟨w.heap.size + 1, 3, none⟩ (.slice (some ⟨g, 0, none⟩) k cap)) g cap (L.map (cln · n)) := by
        rw [own_v] at hO ⊢
        exact (((hO.setOther (by simp; omega) _).setOther (by simp; omega) _).setOther (by simp; omega) _).setOther (by simp; omega) _
      have HF : Hid (Own ((((wr.setCell ⟨w.heap.size + 1, 0, none⟩ (.int .i64 r)).setCell ⟨w.heap.size + 1, 1, none⟩ (.int .i64 c)).setCell ⟨w.heap.size + 1, 2, none⟩ (.int .i64 n)).setCell ⟨w.heap.size + 1, 3, none⟩ (.slice (some ⟨g, 0, none⟩) k cap)) g cap (L.map (cln · n))) := hfin
      clear hfin hO HO KT
      go_wp2
      refine bodyPost_ret (v := .agg #[.int .i64 r, .int .i64 c, .int .i64 n, .slice (some ⟨g, 0, none⟩) k cap]) (by simp [results, Try.results69, go_sem, *]) rfl ⟨by first | rfl | (rw [HL.out]), HF.out, ?_⟩
      have hb : Below w.heap.size w W := hK.below
      refine ⟨⟨?_, ?_, ?_, ?_, ?_⟩, ?_⟩
      · exact hG.grown.os.trans hb.os
      · exact hG.grown.tape.trans hb.tape
      · exact hG.grown.output.trans hb.output
      · have := hG.size; simp; omega
      · intro i hi hne
        rw [Below.heap_setCell _ _ _ _ (by simp; omega), Below.heap_setCell _ _ _ _ (by simp; omega), Below.heap_setCell _ _ _ _ (by simp; omega), Below.heap_setCell _ _ _ _ (by simp; omega)]
        exact (hG.grown.block i (by omega) hne).trans (hb.block i hi)
      · intro x
        rw [World.frozen?_setCell, World.frozen?_setCell, World.frozen?_setCell, World.frozen?_setCell]
        exact (hG.frozen x).trans (hK.frozen x)

end Go.Proofs.Ytojhhimmfnccjaa
