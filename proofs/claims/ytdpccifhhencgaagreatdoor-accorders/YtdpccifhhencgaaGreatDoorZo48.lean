/- How the items are read. -/
import Derived.Test.YtdpccifhhencgaaGreatDoorZo06
import Derived.Test.YtdpccifhhencgaaGreatDoorZo47
import Derived.Deep.SlicePairs
import Derived.Deep.Strs
namespace Go.Proofs.YtdpccifhhencgaaGreatDoor
open Go.ChangeShapes Go.WideShapes Go.ChangeAt Go.RowKit Go.Joins
set_option linter.unusedVariables false
set_option linter.unusedSimpArgs false
set_option maxHeartbeats 16000000
set_option maxRecDepth 100000
theorem cells_item : Tryz.prog.cellsOf 47 = 4 := by kernel_rfl
theorem cells_ii : Tryz.prog.cellsOf 3 = 1 := by kernel_rfl
section
variable {H : Type} {enc : TypeId × Value → H} {W : World}
theorem open_items {b0 : Nat} {v : Value} {d : DataW H} {p : List MemPlace} (hv : Value.okWide Tryz.prog W .any b0 43 v) (h : DataW.Trod enc Tryz.prog W 0 (fun _ => true) true 43 v d p) :
  ∃ (ar : Option Addr) (len cap : Nat), v = .slice ar len cap ∧ ∀ i, i < len → ∃ z : Int × Int × Int × Int, ItemAt W ar i z.1 z.2.1 z.2.2.1 z.2.2.2 ∧ (-9223372036854775808 ≤ z.2.1 ∧ z.2.1 ≤ 9223372036854775807) ∧ (-9223372036854775808 ≤ z.2.2.1 ∧ z.2.2.1 ≤ 9223372036854775807) := by
 obtain ⟨ar, len, cap, rfl⟩ := okWide_slice Tryz.underlying43 hv
 refine ⟨ar, len, cap, rfl, fun i hi => ?_⟩
 obtain ⟨fuel, hf⟩ := h
 rcases Go.Deep.open_slice Tryz.underlying43 hf with ⟨h0, -⟩ | ⟨a, len', cap', m, n, D, Pl, hcs, hb, hl, hm, hmm, -, hx⟩
 ·have : len = 0 := by simp [Value.cells] at h0; exact h0.2.1
  omega
 ·have he : ar = some a ∧ len = len' := by simp [Value.cells] at hcs; exact ⟨hcs.1, hcs.2.1⟩
  obtain ⟨rfl, rfl⟩ := he
  have him : i < m := by rw [hmm]; simp; omega
  obtain ⟨cz, hz1, hz2⟩ := hx 0 (by omega)
  rw [cells_item] at hz1
  obtain ⟨_, hlz, hcz⟩ := World.cells?_some hz1
  have hs : a.spot = none := by
   have c := hcz 0 (by omega)
   obtain ⟨u, hu⟩ : ∃ u, cz[0]? = some u := ⟨cz[0]'(by omega), List.getElem?_eq_getElem _⟩
   rw [hu] at c
   have := World.cell?_spot c
   simpa [Addr.add] using this
  obtain ⟨ab, ao, asp⟩ := a
  simp only at hs
  subst hs
  clear hcz hz1 hz2 hlz
  obtain ⟨cs', h1, h2⟩ := hx i him
  rw [cells_item] at h1
  obtain ⟨_, hlen, hcell⟩ := World.cells?_some h1
  obtain ⟨y0, y1, y2, y3, n1, -, -, g0, g1, g2, g3⟩ := trod_struct4 Tryz.underlying47 h2
  match cs', hlen with
  | [v0, v1, v2, v3], _ =>
   simp only [cells_ii, List.drop_zero, List.drop_succ_cons, List.take_succ_cons, List.take_zero] at g0 g1 g2 g3
   obtain ⟨x0, e0, -, w0⟩ := DataW.trod_int Tryz.underlying3 g0
   obtain ⟨x1, e1, -, w1⟩ := DataW.trod_int Tryz.underlying3 g1
   obtain ⟨x2, e2, -, w2⟩ := DataW.trod_int Tryz.underlying3 g2
   obtain ⟨x3, e3, -, w3⟩ := DataW.trod_int Tryz.underlying3 g3
   simp only [List.cons.injEq, and_true] at e0 e1 e2 e3
   subst e0 e1 e2 e3
   have c0 := hcell 0 (by omega)
   have c1 := hcell 1 (by omega)
   have c2 := hcell 2 (by omega)
   have c3 := hcell 3 (by omega)
   simp only [List.getElem?_cons_zero, List.getElem?_cons_succ] at c0 c1 c2 c3
   rw [Addr.add_lit, Addr.add_lit] at c0 c1 c2 c3
   exact ⟨(x0, x1, x2, x3), ⟨ab, ao, rfl, by simpa using c0, by simpa using c1, by simpa using c2, by simpa using c3⟩, wf_rng x1 w1, wf_rng x2 w2⟩
theorem cell_lt {u : World} {b o : Nat} {v : Value} (h : u.cell? ⟨b, o, none⟩ = some v) : b < u.heap.size := by
 by_cases hs : b < u.heap.size
 ·exact hs
 ·have hn : u.heap[b]? = none := by simp; omega
  simp [World.cell?, hn] at h
theorem ItemAt.kept {u u' : World} {ar : Option Addr} {i : Nat} {k x y z : Int} (h : ItemAt u ar i k x y z) (q : Kept u u') : ItemAt u' ar i k x y z := by
 obtain ⟨b, off, rfl, h0, h1, h2, h3⟩ := h
 have hb := cell_lt h0
 exact ⟨b, off, rfl, (q.below.cell (p := ⟨b, _, none⟩) hb).trans h0, (q.below.cell (p := ⟨b, _, none⟩) hb).trans h1, (q.below.cell (p := ⟨b, _, none⟩) hb).trans h2, (q.below.cell (p := ⟨b, _, none⟩) hb).trans h3⟩
/- the walk at whatever is handed in -/
theorem orders_at (hT : Tab W) (ar : Option Addr) (len cap : Nat) (h : ∀ i, i < len → ∃ z : Int × Int × Int × Int, ItemAt W ar i z.1 z.2.1 z.2.2.1 z.2.2.2 ∧ (-9223372036854775808 ≤ z.2.1 ∧ z.2.1 ≤ 9223372036854775807) ∧ (-9223372036854775808 ≤ z.2.2.1 ∧ z.2.2.1 ≤ 9223372036854775807)) (cut : Int) :
  Calls Tryz.prog 8 #[.slice ar len cap, .int .i64 cut] W fun e w' => e = .returned (.bool true) ∧ Kept W w' := by
 classical
 obtain ⟨g, hg⟩ : ∃ g : Nat → Int × Int × Int × Int, ∀ i, (i < len → ItemAt W ar i (g i).1 (g i).2.1 (g i).2.2.1 (g i).2.2.2) ∧ (-9223372036854775808 ≤ (g i).2.1 ∧ (g i).2.1 ≤ 9223372036854775807) ∧ (-9223372036854775808 ≤ (g i).2.2.1 ∧ (g i).2.2.1 ≤ 9223372036854775807) := by
  refine ⟨fun i => if hi : i < len then (h i hi).choose else (0, 0, 0, 0), fun i => ?_⟩
  by_cases hi : i < len
  ·simp only [hi, dif_pos]
   have := (h i hi).choose_spec
   exact ⟨fun _ => this.1, this.2.1, this.2.2⟩
  ·simp only [hi, dif_neg, not_false_eq_true]
   exact ⟨fun h => h.elim, by omega, by omega⟩
 exact accOrders_true W hT ar len cap (fun i => (g i).1) (fun i => (g i).2.1) (fun i => (g i).2.2.1) (fun i => (g i).2.2.2) (fun i => (hg i).2.1) (fun i => (hg i).2.2) (fun u k i hi => ((hg i).1 hi).kept k) cut
end
end Go.Proofs.YtdpccifhhencgaaGreatDoor
