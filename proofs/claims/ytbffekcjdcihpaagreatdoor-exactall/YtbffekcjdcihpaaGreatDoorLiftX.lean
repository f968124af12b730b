/- How a script of asks about numbers is read. -/
import Derived.Test.YtbffekcjdcihpaaGreatDoorPac
import Derived.Test.YtbffekcjdcihpaaGreatDoorZ2
import Derived.Deep.SlicePairs
import Derived.Deep.Strs
namespace Go.Proofs.YtbffekcjdcihpaaGreatDoor
open Go.ChangeShapes Go.WideShapes Go.ChangeAt Go.RowKit Go.Joins
set_option linter.unusedVariables false
set_option linter.unusedSimpArgs false
set_option maxHeartbeats 16000000
set_option maxRecDepth 100000
theorem cells_askx : Tryz.prog.cellsOf 31 = 10 := by kernel_rfl
theorem cells_ix : Tryz.prog.cellsOf 3 = 1 := by kernel_rfl
theorem cells_bx : Tryz.prog.cellsOf 4 = 1 := by kernel_rfl
theorem cells_lx : Tryz.prog.cellsOf 27 = 1 := by kernel_rfl
theorem cells_nx : Tryz.prog.cellsOf 29 = 3 := by kernel_rfl
section
variable {H : Type} {enc : TypeId × Value → H} {W : World}
theorem open_numx {fuel : Nat} {v0 v1 v2 : Value} {x : DataW H × List MemPlace} (h : DataW.trod enc Tryz.prog W 0 (fun _ => true) true fuel 29 [v0, v1, v2] = some x) : ∃ (A : Nm) (p : Option Addr) (d : Nat), v0 = .bool A.neg ∧ v1 = .slice p A.mag.length d ∧ v2 = .int .i64 A.exp ∧ (-9223372036854775808 ≤ A.exp ∧ A.exp ≤ 9223372036854775807) ∧ (p = none → d = 0) ∧ Rg A.mag ∧ Sl W (.slice p A.mag.length d) A.mag := by
 obtain ⟨q0, q1, q2, n2, -, -, f0, f1, f2⟩ := Go.Deep.trod_struct3 Tryz.underlying29 h
 simp only [cells_ix, cells_bx, cells_lx, List.drop_zero, List.drop_succ_cons, List.take_succ_cons, List.take_zero] at f0 f1 f2
 obtain ⟨ng, e0, -⟩ := DataW.trod_bool Tryz.underlying4 f0
 obtain ⟨L, ar, cr, e1, hc, hR, hS⟩ := open_lst f1
 obtain ⟨x2, e2, -, wx⟩ := DataW.trod_int Tryz.underlying3 f2
 simp only [List.cons.injEq, and_true] at e0 e1 e2
 subst e0 e1 e2
 exact ⟨⟨ng, L, x2⟩, ar, cr, rfl, rfl, rfl, wf_rng x2 wx, hc, hR, hS⟩
theorem trod_s6 {t : TypeId} {f0 f1 f2 f3 f4 f5 : Field} {fuel : Nat} {cs : List Value} {x : DataW H × List MemPlace} (ht : Tryz.prog.underlying t = some (.struct #[f0, f1, f2, f3, f4, f5])) (h : DataW.trod enc Tryz.prog W 0 (fun _ => true) true fuel t cs = some x) : ∃ y0 y1 y2 y3 y4 y5 n, DataW.trod enc Tryz.prog W 0 (fun _ => true) true n f0.type ((cs.drop f0.offset).take (Tryz.prog.cellsOf f0.type)) = some y0 ∧ DataW.trod enc Tryz.prog W 0 (fun _ => true) true n f1.type ((cs.drop f1.offset).take (Tryz.prog.cellsOf f1.type)) = some y1 ∧ DataW.trod enc Tryz.prog W 0 (fun _ => true) true n f2.type ((cs.drop f2.offset).take (Tryz.prog.cellsOf f2.type)) = some y2 ∧ DataW.trod enc Tryz.prog W 0 (fun _ => true) true n f3.type ((cs.drop f3.offset).take (Tryz.prog.cellsOf f3.type)) = some y3 ∧ DataW.trod enc Tryz.prog W 0 (fun _ => true) true n f4.type ((cs.drop f4.offset).take (Tryz.prog.cellsOf f4.type)) = some y4 ∧ DataW.trod enc Tryz.prog W 0 (fun _ => true) true n f5.type ((cs.drop f5.offset).take (Tryz.prog.cellsOf f5.type)) = some y5 := by
 obtain ⟨xs, n, -, -, -, hlen, hf⟩ := DataW.trod_struct ht h
 match xs, hlen with
 | [y0, y1, y2, y3, y4, y5], _ => exact ⟨y0, y1, y2, y3, y4, y5, n, by simpa using hf 0 f0 rfl, by simpa using hf 1 f1 rfl, by simpa using hf 2 f2 rfl, by simpa using hf 3 f3 rfl, by simpa using hf 4 f4 rfl, by simpa using hf 5 f5 rfl⟩
theorem open_askx {b0 : Nat} {v : Value} {d : DataW H} {p : List MemPlace} (hv : Value.okWide Tryz.prog W .any b0 22 v) (h : DataW.Trod enc Tryz.prog W 0 (fun _ => true) true 22 v d p) :
  ∃ (ar : Option Addr) (len cap : Nat), v = .slice ar len cap ∧ ∀ i, i < len → ∃ b off, ar = some ⟨b, off, none⟩ ∧ ∃ (z0 z1 z2 z3 : Int) (A B : Nm) (p1 p2 : Option Addr) (d1 d2 : Nat), A10 W b (off + i * 10) z0 z1 z2 z3 A B p1 p2 d1 d2 ∧ (-9223372036854775808 ≤ z1 ∧ z1 ≤ 9223372036854775807) ∧ (-9223372036854775808 ≤ A.exp ∧ A.exp ≤ 9223372036854775807) ∧ (p1 = none → d1 = 0) ∧ (p2 = none → d2 = 0) ∧ Rg A.mag ∧ Rg B.mag ∧ Sl W (.slice p1 A.mag.length d1) A.mag ∧ Sl W (.slice p2 B.mag.length d2) B.mag := by
 obtain ⟨ar, len, cap, rfl⟩ := okWide_slice Tryz.underlying22 hv
 refine ⟨ar, len, cap, rfl, fun i hi => ?_⟩
 obtain ⟨fuel, hf⟩ := h
 rcases Go.Deep.open_slice Tryz.underlying22 hf with ⟨h0, -⟩ | ⟨a, len', cap', m, n, D, Pl, hcs, hb, hl, hm, hmm, -, hx⟩
 ·have : len = 0 := by simp [Value.cells] at h0; exact h0.2.1
  omega
 ·have he : ar = some a ∧ len = len' := by simp [Value.cells] at hcs; exact ⟨hcs.1, hcs.2.1⟩
  obtain ⟨rfl, rfl⟩ := he
  have him : i < m := by rw [hmm]; simp; omega
  obtain ⟨cz, hz1, hz2⟩ := hx 0 (by omega)
  rw [cells_askx] at hz1
  obtain ⟨_, hlz, hcz⟩ := World.cells?_some hz1
  have hs : a.spot = none := by
   have c := hcz 0 (by omega)
   obtain ⟨u, hu⟩ : ∃ u, cz[0]? = some u := ⟨cz[0]'(by omega), List.getElem?_eq_getElem _⟩
   rw [hu] at c
   have := World.cell?_spot c
   simpa [Addr.add] using this
  obtain ⟨ab, ao, asp⟩ := a
  simp only at hs
  subst hs
  clear hcz hz1 hz2 hlz
  obtain ⟨cs', h1, h2⟩ := hx i him
  rw [cells_askx] at h1
  obtain ⟨_, hlen, hcell⟩ := World.cells?_some h1
  obtain ⟨y0, y1, y2, y3, y4, y5, n1, g0, g1, g2, g3, g4, g5⟩ := trod_s6 Tryz.underlying31 h2
  match cs', hlen with
  | [v0, v1, v2, v3, v4, v5, v6, v7, v8, v9], _ =>
    simp only [cells_ix, cells_nx, List.drop_zero, List.drop_succ_cons, List.take_succ_cons, List.take_zero, List.getElem?_cons_zero, List.getElem?_cons_succ] at g0 g1 g2 g3 g4 g5
    obtain ⟨x0, e0, -, w0⟩ := DataW.trod_int Tryz.underlying3 g0
    obtain ⟨x1, e1, -, w1⟩ := DataW.trod_int Tryz.underlying3 g1
    obtain ⟨x2, e2, -, w2⟩ := DataW.trod_int Tryz.underlying3 g2
    obtain ⟨x3, e3, -, w3⟩ := DataW.trod_int Tryz.underlying3 g3
    obtain ⟨A, p1, d1, rfl, rfl, rfl, ra1, rc1, rr1, rs1⟩ := open_numx g4
    obtain ⟨B, p2, d2, rfl, rfl, rfl, ra2, rc2, rr2, rs2⟩ := open_numx g5
    simp only [List.cons.injEq, and_true] at e0 e1 e2 e3
    subst e0 e1 e2 e3
    have c0 := hcell 0 (by omega)
    have c1 := hcell 1 (by omega)
    have c2 := hcell 2 (by omega)
    have c3 := hcell 3 (by omega)
    have c4 := hcell 4 (by omega)
    have c5 := hcell 5 (by omega)
    have c6 := hcell 6 (by omega)
    have c7 := hcell 7 (by omega)
    have c8 := hcell 8 (by omega)
    have c9 := hcell 9 (by omega)
    simp only [List.getElem?_cons_zero, List.getElem?_cons_succ] at c0 c1 c2 c3 c4 c5 c6 c7 c8 c9
    rw [Addr.add_lit, Addr.add_lit] at c0 c1 c2 c3 c4 c5 c6 c7 c8 c9
    exact ⟨ab, ao, rfl, x0, x1, x2, x3, A, B, p1, p2, d1, d2, ⟨by simpa using c0, by simpa using c1, by simpa using c2, by simpa using c3, by simpa using c4, by simpa using c5, by simpa using c6, by simpa using c7, by simpa using c8, by simpa using c9⟩, wf_rng x1 w1, ra1, rc1, rc2, rr1, rr2, rs1, rs2⟩
end
end Go.Proofs.YtbffekcjdcihpaaGreatDoor
