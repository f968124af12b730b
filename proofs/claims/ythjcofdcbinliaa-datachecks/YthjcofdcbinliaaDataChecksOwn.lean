/- DataChecks holds of the program at every set: what Check answers is what the document's own Check says, and what was handed in stays as it was. No condition. -/
import Derived.Test.YthjcofdcbinliaaRows
import Derived.WalkKit
import Derived.ProofKit
import Derived.OpenShut
import Derived.SizedLaws
import Derived.Test.YthjcofdcbinliaaDCy
import Derived.Test.YthjcofdcbinliaaLiftZ
namespace Go.Proofs.Ythjcofdcbinliaa.dataChecks
open Go.ChangeShapes Go.WideShapes Go.ChangeAt Go.RowKit
set_option linter.unusedVariables false

theorem own : ownKnob Try.prog.godebug = none := by kernel_rfl

set_option maxRecDepth 100000 in
theorem lifted (os : Os) (started : os.Started) (H : Type) (enc : TypeId × Value → H) :
    ReturnsInHanded {} Try.checked os 4 .any (Rows.dataChecksSpec.pre6 enc Try.prog Try.f4 Rows.dataChecksRow.domain false) (Rows.dataChecksSpec.post enc Try.prog Try.f4 false true false false) := by
  refine returnsInHanded_of_change_sized (C := Try.checked) own started (by kernel_rfl) Try.func4
    (ChangeSpec.witness6 (enc := enc) (C := Try.checked) false ⟨#[], #[.agg #[.int .i64 0, .int .i64 0, .int .i64 0, .slice none 0 0, .int .i64 0, .int .i64 0, .int .i64 0, .slice none 0 0]], []⟩ 8 (by kernel_rfl) (by kernel_rfl) (by kernel_rfl) (by kernel_rfl)) ?_
  intro W base args ds gs before hval0 hW hcnd hsz0 _
  have hsz : (DataW.weightsEach Try.prog (Try.f4.params.toList ++ Rows.dataChecksSpec.plain.varTypes Try.prog) (ds ++ gs)).all (· ≤ reachBytes) = true := hsz0
  have hval : ∀ (j : Nat) t v, Try.f4.params[j]? = some t → args[j]? = some v → Value.okWide Try.prog W .any base t v := hval0
  have hW' := hW
  obtain ⟨p, q, hA0, hV, rfl, hfz, hnd⟩ := hW
  have hA : DataW.TrodAll enc Try.prog W 0 (fun _ => true) true Try.f4.params.toList args.toList ds p := hA0
  have hAk : DataW.TrodAll enc Try.prog W 0 (fun _ => true) true [33] args.toList ds p := by rw [Try.params4] at hA; exact hA
  have hlt : ∀ x ∈ p, x.block < W.heap.size := fun x hx => by simpa using hW'.lt x (List.mem_append.2 (.inl hx))
  rw [Try.params4] at hA hval hsz
  obtain ⟨v0, vs0, d0, ds0, p0, q0, hargs, rfl, rfl, h0, r0⟩ := trodAll_cons hA
  obtain ⟨rfl, rfl, rfl⟩ := trodAll_nil r0
  obtain rfl : args = #[v0] := by cases args; simp_all
  obtain ⟨rfl, rfl⟩ := trodVars_none hV
  obtain ⟨r0, c0, n0, L0, a0, q0, r0', c0', n0', L0', a0', q0', rfl, hR0, hR0', hS0, hS0', hl0, hl0'⟩ := open_set (hval 0 33 v0 rfl rfl) h0 (fun m hm => by simpa using List.all_eq_true.1 hsz m (DataW.weights_mem_each (j := 0) rfl rfl m hm))
  clear hA0 hval0
  refine (dataChecks_true r0 c0 n0 a0 q0 L0 r0' c0' n0' a0' q0' L0' (rgl_of hR0) (rgl_of hR0') (by omega) (by omega) W hS0 hS0').mono fun e W' ⟨he, hk⟩ => ?_
  subst he
  refine ⟨_, rfl, _, _, _, [], p0 ++ ([]), [], hW', (trodAll_cons_mk (shut_bool Try.underlying4 _) trodAll_mk0), ?_, rfl, hk.frame _, fun h => (by cases h)⟩
  have hsp : ∀ x ∈ p0 ++ ([]), (fun b => decide (b < W.heap.size)) x.block = true := fun x hx => by simpa using hlt x hx
  have := trodAll_stays (sp := fun b => decide (b < W.heap.size)) (W' := W') (fun t ht => ?_) hAk (fun x hx => hk.same (hlt x hx)) (fun x hx => hsp x hx)
  · exact (show Try.f4.params.toList = [33] by rw [Try.params4]) ▸ this
  · have hall : ([33].all fun u => Try.prog.readableRec u && decide (u < Try.prog.types.size)) = true := by kernel_rfl
    have := List.all_eq_true.1 hall t ht
    simp only [Bool.and_eq_true, decide_eq_true_eq] at this
    exact this

theorem over : Rows.dataChecksRow.holds Try.pinned (OpenSpec.ofChange Rows.dataChecksSpec) :=
  OpenClaim.holds_of_wide 4 Try.f4 rfl rfl rfl rfl rfl rfl rfl ⟨rfl, rfl, rfl, rfl, rfl⟩ rfl rfl rfl rfl rfl (by kernel_rfl) Try.func4 (by kernel_rfl)
    (of_decide_eq_true (by kernel_rfl)) (by unfold Func.isWrapper; first | (rw [if_pos (by decide +kernel)]; kernel_rfl) | (rw [if_neg (by decide +kernel)]; exact ⟨rfl, rfl⟩))
    (fun os started H enc _ => lifted os started H enc)

/-- The statement of the row. -/
theorem proved : Rows.DataChecksSaid :=
  over
end Go.Proofs.Ythjcofdcbinliaa.dataChecks

namespace Go.Proofs.Ythjcofdcbinliaa
theorem dataChecks_holds : Rows.DataChecksSaid := dataChecks.proved
#print axioms dataChecks_holds
end Go.Proofs.Ythjcofdcbinliaa
