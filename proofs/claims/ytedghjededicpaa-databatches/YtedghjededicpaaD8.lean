/- The walk of exact's told: what is reckoned, or it gives up. The walks of slices.Clone and of the closures that clone and form. -/
import Derived.Test.YtedghjededicpaaD6
import Derived.Defers
import Derived.Recover
import Derived.OwnWalk
import Derived.Laws.Cover3
import Derived.Laws.OwnMore
import Derived.Laws.AppendOwn
namespace Go.Proofs.Ytedghjededicpaa
open Go.ChangeShapes Go.WideShapes Go.ChangeAt Go.RowKit
set_option linter.unusedVariables false

end Go.Proofs.Ytedghjededicpaa

namespace Go.Proofs.Ytedghjededicpaa
open Go.ChangeShapes Go.WideShapes Go.ChangeAt Go.RowKit
set_option linter.unusedVariables false

theorem wpList_append_run {P : Program} {w : World} {ops : Array Oper} {rest : List Oper} {o : Oper} {a : Act} {Q : Exit → Act → World → Prop} (hgd : o.guard = none) (s x : Operand) (t : TypeId)
    (ho : o.op = .call { callee := .builtin .append, args := #[s, x], argTypes := #[t, t] }) (v xv : Value) (hs : a.eval s = v) (hx : a.eval x = xv) (v' : Value) (w' : World)
    (hr : (Builtin.append_ #[t, t] o.type #[v, xv]).run P w = .ok v' w') (h : wpList P ops Q rest (a.put o.dst v') w') : wpList P ops Q (o :: rest) a w := by
  refine wpList_plain hgd fun K hK => ?_
  unfold Oper.wp execOp
  simp only [ho, resolve, invoke, builtin, Sem.run_bind, Sem.run_pure, Result.andThen_ok, List.map_toArray, List.map_cons, List.map_nil, hs, hx, hr]
  exact hK _ _ h

theorem int_info : (Try.prog.info? 3).map (fun i => (i.zero, i.size, i.bytes)) = some (some (.int .i64 0), 1, 8) := by kernel_rfl
theorem li_under : Try.prog.underlying 23 = some (.slice 3) := by kernel_rfl

theorem eql_nil (w : World) (a : Option Addr) (n c : Nat): (binOp .eql 23 (.slice a n c) (.slice none 0 0)).run Try.prog w = .ok (.bool a.isNone) w := by
  simp only [binOp]
  simp [run_equal_slice_nil w _ _ a n c li_under]

def Cl (w0 w : World) (sv : Value) (L : List Int) : Prop :=
  (L = [] ∧ ∃ ao cap, sv = .slice ao 0 cap) ∨ ∃ g cap, sv = .slice (some ⟨g, 0, none⟩) L.length cap ∧ w0.heap.size ≤ g ∧ Own w g cap L

theorem own_grown (w : World) (L : List Int) (cap : Nat) (h1 : L.length ≤ cap) (h2 : cap ≤ maxLen) : Own (w.alloc (.cells ((L.map (Value.int .i64)).toArray ++ Builtin.zeroCells (Value.int .i64 0).cells (cap - L.length)) 3)) w.heap.size cap L := by
  refine ⟨_, heap_alloc_new w _, h1, h2, ?_, ?_⟩
  · simp [size_zeroCells, Value.cells]; omega
  · simp

theorem Cl.kept {w0 w w' : World} {sv : Value} {L : List Int} (h : Cl w0 w sv L) (k : Kept w w') : Cl w0 w' sv L := by
  rcases h with h | ⟨g, cap, e, hg, ho⟩
  · exact .inl h
  · exact .inr ⟨g, cap, e, hg, ho.kept k⟩

theorem New.shape {w0 w : World} {v : Value} {r : Nm} (h : New w0 w v r) : ∃ n ao l c x, v = .agg #[.bool n, .slice ao l c, .int .i64 x] := by
  rcases h with ⟨-, rfl⟩ | ⟨g, cap, rfl, -⟩
  · exact ⟨_, _, _, _, _, rfl⟩
  · exact ⟨_, _, _, _, _, rfl⟩
theorem Cl.from {w0 w1 w : World} {sv : Value} {L : List Int} (h : Cl w1 w sv L) (k : Kept w0 w1) : Cl w0 w sv L := by
  rcases h with h | ⟨g, cap, e, hg, ho⟩
  · exact .inl h
  · exact .inr ⟨g, cap, e, Nat.le_trans k.below.size hg, ho⟩

end Go.Proofs.Ytedghjededicpaa
