/- make, bare, matrix, rowOf of package tensor. -/
import Derived.Test.YtocjfdiimapojaaT1
namespace Go.Proofs.Ytocjfdiimapojaa
open Go.ChangeShapes Go.WideShapes Go.ChangeAt Go.RowKit
set_option linter.unusedVariables false
set_option linter.unusedSimpArgs false

theorem tmake_run (l n : Nat) (hl : l ≤ n) (hn : n < 100000000) (w : World) : (Instr.makeSlice 52 (.int .i64 (l : Int)) (.int .i64 (n : Int))).run Try.prog w = .ok (.slice (some ⟨w.heap.size, 0, none⟩) l n) (w.alloc (.cells (madeCells #[.int .i64 0] n) 3)) := by
  obtain ⟨i, hi, hz, hs, hby⟩ := info_parts (int_info)
  have := run_make (P := Try.prog) w 52 3 i (.int .i64 0) li_under hi hz .i64 .i64 (l : Int) (n : Int) (by omega) (by omega) (by rw [hby]; omega) (by omega)
  rw [hs, Int.toNat_natCast, Int.toNat_natCast, Nat.mul_one] at this
  exact this
theorem town_made (l n : Nat) (hl : l ≤ n) (hn : n < 100000000) (w : World) : Own (w.alloc (.cells (madeCells #[.int .i64 0] n) 3)) w.heap.size n (List.replicate l 0) := by
  refine ⟨_, heap_alloc_new w _, by simpa using hl, by simp [maxLen]; omega, by simp [size_madeCells], ?_⟩
  rw [List.length_replicate, toList_madeCells_one]
  simp [List.take_replicate, Nat.min_eq_left hl]

theorem Grw.cellx {g : Nat} {a b : World} (h : Grw g a b) (B o : Nat) (hB : B < a.heap.size) (hne : B ≠ g) : b.cell? ⟨B, o, none⟩ = a.cell? ⟨B, o, none⟩ :=
  World.cell?_of_block (w := a) (a := ⟨B, o, none⟩) (h.grown.block B hB (by simpa using hne))
theorem Grw.size {g : Nat} {a b : World} (h : Grw g a b) : a.heap.size ≤ b.heap.size := h.grown.size

/-- The first k elements told. -/
def clk (n : Int) (L : List Int) (k : Nat) : List Int := (L.take k).map (cln · n) ++ L.drop k
theorem clk_length (n : Int) (L : List Int) (k : Nat) : (clk n L k).length = L.length := by
  unfold clk
  rw [List.length_append, List.length_map, ← List.length_append, List.take_append_drop]
theorem clk_zero (n : Int) (L : List Int) : clk n L 0 = L := by simp [clk]
theorem clk_all (n : Int) (L : List Int) : clk n L L.length = L.map (cln · n) := by simp [clk]
theorem clk_get (n : Int) (L : List Int) (k : Nat) (hk : k < L.length) : (clk n L k).getD k 0 = L.getD k 0 := by
  unfold clk
  rw [List.getD_eq_getElem?_getD, List.getD_eq_getElem?_getD, List.getElem?_append_right (by simp; omega)]
  simp [Nat.min_eq_left (Nat.le_of_lt hk)]
theorem clk_set (n : Int) (L : List Int) (k : Nat) (hk : k < L.length) : (clk n L k).set k (cln (L.getD k 0) n) = clk n L (k + 1) := by
  unfold clk
  have h1 : (List.map (fun x => cln x n) (L.take k)).length = k := by simp; omega
  rw [List.set_append_right _ _ (by omega), h1, Nat.sub_self, List.drop_eq_getElem_cons hk, List.set_cons_zero, List.take_succ_eq_append_getElem hk, List.map_append, List.append_assoc, List.getD_eq_getElem?_getD, List.getElem?_eq_getElem hk]
  rfl

/-- Every element is an int. -/
def Rgl (L : List Int) : Prop := ∀ i, i < L.length → -9223372036854775808 ≤ L.getD i 0 ∧ L.getD i 0 ≤ 9223372036854775807

theorem res4 (w : World) (B : Nat) (a b c d : Value) (h : M4 w B a b c d) (x y z u : Value) : M4 ((((w.setCell ⟨B, 0, none⟩ x).setCell ⟨B, 1, none⟩ y).setCell ⟨B, 2, none⟩ z).setCell ⟨B, 3, none⟩ u) B x y z u := by
  obtain ⟨c0, c1, c2, c3⟩ := h
  exact ⟨by simp [go_sem, *], by simp [go_sem, *], by simp [go_sem, *], by simp [go_sem, *]⟩

end Go.Proofs.Ytocjfdiimapojaa
