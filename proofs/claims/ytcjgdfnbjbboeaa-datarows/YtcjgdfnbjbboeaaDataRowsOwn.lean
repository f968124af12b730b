/- For every set and every list of row numbers the statement DataRows answers true: Row and Pick of package data tell what the document says of each, share no memory with one another or with what was handed in, and turn nothing that was handed in. No condition beyond those that the given statement itself names. -/
import Derived.Test.YtcjgdfnbjbboeaaRows
import Derived.WalkKit
import Derived.ProofKit
import Derived.OpenShut
import Derived.SizedLaws
import Derived.Test.YtcjgdfnbjbboeaaWr52
import Derived.Test.YtcjgdfnbjbboeaaWr53
namespace Go.Proofs.Ytcjgdfnbjbboeaa.dataRows
open Go.ChangeShapes Go.WideShapes Go.ChangeAt Go.RowKit
set_option linter.unusedVariables false

theorem own : ownKnob Try.prog.godebug = none := by kernel_rfl

set_option maxRecDepth 100000 in
theorem lifted (os : Os) (started : os.Started) (H : Type) (enc : TypeId × Value → H) :
    ReturnsInHanded {} Try.checked os 3 .any (Rows.dataRowsSpec.pre6 enc Try.prog Try.f3 Rows.dataRowsRow.domain false) (Rows.dataRowsSpec.post enc Try.prog Try.f3 false true false false) := by
  refine returnsInHanded_of_change_sized (C := Try.checked) own started (by kernel_rfl) Try.func3
    (ChangeSpec.witness6 (enc := enc) (C := Try.checked) false ⟨#[], #[.agg #[.int .i64 0, .int .i64 0, .int .i64 0, .slice none 0 0, .int .i64 0, .int .i64 0, .int .i64 0, .slice none 0 0], .slice none 0 0], []⟩ 8 (by kernel_rfl) (by kernel_rfl) (by kernel_rfl) (by kernel_rfl)) ?_
  intro W base args ds gs before hval0 hW hcnd hsz0 _
  have hsz : (DataW.weightsEach Try.prog (Try.f3.params.toList ++ Rows.dataRowsSpec.plain.varTypes Try.prog) (ds ++ gs)).all (· ≤ reachBytes) = true := hsz0
  have hval : ∀ (j : Nat) t v, Try.f3.params[j]? = some t → args[j]? = some v → Value.okWide Try.prog W .any base t v := hval0
  have hW' := hW
  obtain ⟨p, q, hA0, hV, rfl, hfz, hnd⟩ := hW
  have hA : DataW.TrodAll enc Try.prog W 0 (fun _ => true) true Try.f3.params.toList args.toList ds p := hA0
  have hAk : DataW.TrodAll enc Try.prog W 0 (fun _ => true) true [26, 22] args.toList ds p := by rw [Try.params3] at hA; exact hA
  have hlt : ∀ x ∈ p, x.block < W.heap.size := fun x hx => by simpa using hW'.lt x (List.mem_append.2 (.inl hx))
  rw [Try.params3] at hA hval hsz
  obtain ⟨v0, vs0, d0, ds0, p0, q0, hargs, rfl, rfl, h0, r0⟩ := trodAll_cons hA
  obtain ⟨v1, vs1, d1, ds1, p1, q1, rfl, rfl, rfl, h1, r1⟩ := trodAll_cons r0
  obtain ⟨rfl, rfl, rfl⟩ := trodAll_nil r1
  obtain rfl : args = #[v0, v1] := by cases args; simp_all
  obtain ⟨rfl, rfl⟩ := trodVars_none hV
  obtain ⟨sr0, sc0, sn0, L0, sa0, sq0, sr0', sc0', sn0', L0', sa0', sq0', rfl, hR0, hR0', hS0, hS0', hl0, hl0'⟩ := open_set (hval 0 26 v0 rfl rfl) h0 (fun m hm => by simpa using List.all_eq_true.1 hsz m (DataW.weights_mem_each (j := 0) rfl rfl m hm))
  obtain ⟨s1, l1, c1, rfl⟩ := okWide_slice Try.underlying22 (hval 1 22 v1 rfl rfl)
  obtain ⟨fuel1, hf1⟩ := h1
  obtain ⟨L1, ar1, cr1, e1, hc1, hR1, hS1⟩ := open_lst hf1
  simp only [Value.cells, List.cons.injEq, and_true] at e1
  obtain ⟨rfl, rfl, rfl⟩ : s1 = ar1 ∧ l1 = L1.length ∧ c1 = cr1 := by simpa using e1
  clear hA0 hval0
  refine (dataRows_true sr0 sc0 sn0 sa0 sq0 L0 sr0' sc0' sn0' sa0' sq0' L0' L1 s1 c1 (rgl_of hR0) (rgl_of hR0') (by omega) (by omega) W hS0 hS0' hS1).mono fun e W' ⟨he, hk⟩ => ?_
  subst he
  refine ⟨_, rfl, _, _, _, [], p0 ++ (p1 ++ ([])), [], hW', (trodAll_cons_mk (shut_bool Try.underlying4 _) trodAll_mk0), ?_, rfl, hk.frame _, fun h => (by cases h)⟩
  have hsp : ∀ x ∈ p0 ++ (p1 ++ ([])), (fun b => decide (b < W.heap.size)) x.block = true := fun x hx => by simpa using hlt x hx
  have := trodAll_stays (sp := fun b => decide (b < W.heap.size)) (W' := W') (fun t ht => ?_) hAk (fun x hx => hk.same (hlt x hx)) (fun x hx => hsp x hx)
  · exact (show Try.f3.params.toList = [26, 22] by rw [Try.params3]) ▸ this
  · have hall : ([26, 22].all fun u => Try.prog.readableRec u && decide (u < Try.prog.types.size)) = true := by kernel_rfl
    have := List.all_eq_true.1 hall t ht
    simp only [Bool.and_eq_true, decide_eq_true_eq] at this
    exact this

theorem over : Rows.dataRowsRow.holds Try.pinned (OpenSpec.ofChange Rows.dataRowsSpec) :=
  OpenClaim.holds_of_wide 3 Try.f3 rfl rfl rfl rfl rfl rfl rfl ⟨rfl, rfl, rfl, rfl, rfl⟩ rfl rfl rfl rfl rfl (by kernel_rfl) Try.func3 (by kernel_rfl)
    (of_decide_eq_true (by kernel_rfl)) (by unfold Func.isWrapper; first | (rw [if_pos (by decide +kernel)]; kernel_rfl) | (rw [if_neg (by decide +kernel)]; exact ⟨rfl, rfl⟩))
    (fun os started H enc _ => lifted os started H enc)

/-- The statement of the row. -/
theorem proved : Rows.DataRowsSaid :=
  over
end Go.Proofs.Ytcjgdfnbjbboeaa.dataRows

namespace Go.Proofs.Ytcjgdfnbjbboeaa
theorem dataRows_holds : Rows.DataRowsSaid := dataRows.proved
#print axioms dataRows_holds
end Go.Proofs.Ytcjgdfnbjbboeaa
