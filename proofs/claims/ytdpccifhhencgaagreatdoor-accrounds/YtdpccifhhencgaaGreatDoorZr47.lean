/- How a sum is read. -/
import Derived.Test.YtdpccifhhencgaaGreatDoorZr46
import Derived.Deep.SlicePairs
namespace Go.Proofs.YtdpccifhhencgaaGreatDoor
open Go.ChangeShapes Go.WideShapes Go.ChangeAt Go.RowKit Go.Joins
set_option linter.unusedVariables false
set_option linter.unusedSimpArgs false
set_option maxHeartbeats 16000000
set_option maxRecDepth 100000
theorem cells_acc : Tryz.prog.cellsOf 26 = 6 := by kernel_rfl
theorem cells_by : Tryz.prog.cellsOf 4 = 1 := by kernel_rfl
theorem cells_ly : Tryz.prog.cellsOf 22 = 1 := by kernel_rfl
section
variable {H : Type} {enc : TypeId × Value → H} {W : World}
theorem open_numy {fuel : Nat} {v0 v1 v2 : Value} {x : DataW H × List MemPlace} (h : DataW.trod enc Tryz.prog W 0 (fun _ => true) true fuel 24 [v0, v1, v2] = some x) : ∃ (A : Nm) (p : Option Addr) (d : Nat), v0 = .bool A.neg ∧ v1 = .slice p A.mag.length d ∧ v2 = .int .i64 A.exp ∧ (-9223372036854775808 ≤ A.exp ∧ A.exp ≤ 9223372036854775807) ∧ (p = none → d = 0) ∧ Rg A.mag ∧ Sl W (.slice p A.mag.length d) A.mag := by
 obtain ⟨q0, q1, q2, n2, -, -, f0, f1, f2⟩ := Go.Deep.trod_struct3 Tryz.underlying24 h
 simp only [cells_int, cells_by, cells_ly, List.drop_zero, List.drop_succ_cons, List.take_succ_cons, List.take_zero] at f0 f1 f2
 obtain ⟨ng, e0, -⟩ := DataW.trod_bool Tryz.underlying4 f0
 obtain ⟨L, ar, cr, e1, hc, hR, hS⟩ := open_lst f1
 obtain ⟨x2, e2, -, wx⟩ := DataW.trod_int Tryz.underlying3 f2
 simp only [List.cons.injEq, and_true] at e0 e1 e2
 subst e0 e1 e2
 exact ⟨⟨ng, L, x2⟩, ar, cr, rfl, rfl, rfl, wf_rng x2 wx, hc, hR, hS⟩
theorem array6 {cs : Array Value} (h : cs.size = 6) : ∃ c0 c1 c2 c3 c4 c5, cs = #[c0, c1, c2, c3, c4, c5] := by
 obtain ⟨l⟩ := cs
 match l, h with
 | [c0, c1, c2, c3, c4, c5], _ => exact ⟨c0, c1, c2, c3, c4, c5, rfl⟩
theorem open_acc {b0 : Nat} {v : Value} {d : DataW H} {p : List MemPlace} (hv : Value.okWide Tryz.prog W .any b0 26 v) (h : DataW.Trod enc Tryz.prog W 0 (fun _ => true) true 26 v d p) :
  ∃ (A : Nm) (ar : Option Addr) (cr : Nat) (f1 f2 f3 : Bool), v = .agg #[.bool A.neg, .slice ar A.mag.length cr, .int .i64 A.exp, .bool f1, .bool f2, .bool f3] ∧ (-9223372036854775808 ≤ A.exp ∧ A.exp ≤ 9223372036854775807) ∧ (ar = none → cr = 0) ∧ Rg A.mag ∧ Sl W (.slice ar A.mag.length cr) A.mag := by
 obtain ⟨cs, rfl, hsz⟩ := okWide_struct Tryz.underlying26 hv
 obtain ⟨c0, c1, c2, c3, c4, c5, rfl⟩ := array6 (hsz.trans cells_acc)
 obtain ⟨fuel, hf⟩ := h
 obtain ⟨y0, y1, y2, y3, n, -, -, h0, h1, h2, h3⟩ := trod_struct4 Tryz.underlying26 hf
 simp only [Value.cells, cells_num, cells_by, List.drop_zero, List.drop_succ_cons, List.take_succ_cons, List.take_zero] at h0 h1 h2 h3
 obtain ⟨A, ar, cr, rfl, rfl, rfl, r1, r2, r3, r4⟩ := open_numy h0
 obtain ⟨f1, e1, -⟩ := DataW.trod_bool Tryz.underlying4 h1
 obtain ⟨f2, e2, -⟩ := DataW.trod_bool Tryz.underlying4 h2
 obtain ⟨f3, e3, -⟩ := DataW.trod_bool Tryz.underlying4 h3
 simp only [List.cons.injEq, and_true] at e1 e2 e3
 subst e1 e2 e3
 exact ⟨A, ar, cr, f1, f2, f3, rfl, r1, r2, r3, r4⟩
end
end Go.Proofs.YtdpccifhhencgaaGreatDoor
