/- How a script of asks is read. -/
import Derived.Test.YtakdnodgcdddeaaLiftD
import Derived.Deep.SlicePairs
import Derived.Deep.Strs
namespace Go.Proofs.Ytakdnodgcdddeaa
open Go.ChangeShapes Go.WideShapes Go.ChangeAt Go.RowKit Go.Joins
set_option linter.unusedVariables false

theorem cells_ask : Try.prog.cellsOf 33 = 6 := by kernel_rfl
theorem cells_i : Try.prog.cellsOf 3 = 1 := by kernel_rfl

/-- An ask's six cells. -/
def Ask6 (w : World) (b o : Nat) (z0 z1 z2 z3 z4 z5 : Int) : Prop := w.cell? ⟨b, o, none⟩ = some (.int .i64 z0) ∧ w.cell? ⟨b, o + 1, none⟩ = some (.int .i64 z1) ∧ w.cell? ⟨b, o + 2, none⟩ = some (.int .i64 z2) ∧ w.cell? ⟨b, o + 3, none⟩ = some (.int .i64 z3) ∧ w.cell? ⟨b, o + 4, none⟩ = some (.int .i64 z4) ∧ w.cell? ⟨b, o + 5, none⟩ = some (.int .i64 z5)

section
variable {H : Type} {enc : TypeId × Value → H} {W : World}

set_option maxRecDepth 100000 in
theorem open_asks {b0 : Nat} {v : Value} {d : DataW H} {p : List MemPlace} (hv : Value.okWide Try.prog W .any b0 31 v) (h : DataW.Trod enc Try.prog W 0 (fun _ => true) true 31 v d p) :
    ∃ (ar : Option Addr) (len cap : Nat), v = .slice ar len cap ∧ ∀ i, i < len → ∃ b off, ar = some ⟨b, off, none⟩ ∧ ∃ z0 z1 z2 z3 z4 z5 : Int, Ask6 W b (off + i * 6) z0 z1 z2 z3 z4 z5 ∧ z1 ≤ 9223372036854775807 := by
  obtain ⟨ar, len, cap, rfl⟩ := okWide_slice Try.underlying31 hv
  refine ⟨ar, len, cap, rfl, fun i hi => ?_⟩
  obtain ⟨fuel, hf⟩ := h
  rcases Go.Deep.open_slice Try.underlying31 hf with ⟨h0, -⟩ | ⟨a, len', cap', m, n, D, Pl, hcs, hb, hl, hm, hmm, -, hx⟩
  · have : len = 0 := by simp [Value.cells] at h0; exact h0.2.1
    omega
  · have he : ar = some a ∧ len = len' := by simp [Value.cells] at hcs; exact ⟨hcs.1, hcs.2.1⟩
    obtain ⟨rfl, rfl⟩ := he
    have him : i < m := by rw [hmm]; simp; omega
    obtain ⟨cz, hz1, hz2⟩ := hx 0 (by omega)
    rw [cells_ask] at hz1
    obtain ⟨_, hlz, hcz⟩ := World.cells?_some hz1
    have hs : a.spot = none := by
      have c := hcz 0 (by omega)
      obtain ⟨u, hu⟩ : ∃ u, cz[0]? = some u := ⟨cz[0]'(by omega), List.getElem?_eq_getElem _⟩
      rw [hu] at c
      have := World.cell?_spot c
      simpa [Addr.add] using this
    obtain ⟨ab, ao, asp⟩ := a
    simp only at hs
    subst hs
    clear hcz hz1 hz2 hlz
    obtain ⟨cs', h1, h2⟩ := hx i him
    rw [cells_ask] at h1
    obtain ⟨_, hlen, hcell⟩ := World.cells?_some h1
    obtain ⟨y0, y1, y2, y3, n1, -, -, g0, g1, g2, g3⟩ := trod_struct4 Try.underlying33 h2
    match cs', hlen with
    | [v0, v1, v2, v3, v4, v5], _ =>
      simp only [cells_i, cells_draw, List.drop_zero, List.drop_succ_cons, List.take_succ_cons, List.take_zero] at g0 g1 g2 g3
      obtain ⟨x0, e0, -, w0⟩ := DataW.trod_int Try.underlying3 g0
      obtain ⟨x1, e1, -, w1⟩ := DataW.trod_int Try.underlying3 g1
      obtain ⟨x2, e2, -, w2⟩ := DataW.trod_int Try.underlying3 g2
      obtain ⟨q0, q1, q2, n2, -, -, f0, f1, f2⟩ := Go.Deep.trod_struct3 Try.underlying23 g3
      simp only [cells_i, List.drop_zero, List.drop_succ_cons, List.take_succ_cons, List.take_zero] at f0 f1 f2
      obtain ⟨x3, e3, -, w3⟩ := DataW.trod_int Try.underlying3 f0
      obtain ⟨x4, e4, -, w4⟩ := DataW.trod_int Try.underlying3 f1
      obtain ⟨x5, e5, -, w5⟩ := DataW.trod_int Try.underlying3 f2
      simp only [List.cons.injEq, and_true] at e0 e1 e2 e3 e4 e5
      subst e0 e1 e2 e3 e4 e5
      have c0 := hcell 0 (by omega)
      have c1 := hcell 1 (by omega)
      have c2 := hcell 2 (by omega)
      have c3 := hcell 3 (by omega)
      have c4 := hcell 4 (by omega)
      have c5 := hcell 5 (by omega)
      simp only [List.getElem?_cons_zero, List.getElem?_cons_succ] at c0 c1 c2 c3 c4 c5
      rw [Addr.add_lit, Addr.add_lit] at c0 c1 c2 c3 c4 c5
      exact ⟨ab, ao, rfl, x0, x1, x2, x3, x4, x5, ⟨by simpa using c0, by simpa using c1, by simpa using c2, by simpa using c3, by simpa using c4, by simpa using c5⟩, (wf_rng x1 w1).2⟩
end
end Go.Proofs.Ytakdnodgcdddeaa
