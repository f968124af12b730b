/- Proved: for every script of asks (no condition), the law RngAll (P601 to P608) returns true, and its argument reads as it did: calls in any order answer as the document's own do, and the lists are new memory. -/
import Derived.Test.YtakdnodgcdddeaaRows
import Derived.WalkKit
import Derived.ProofKit
import Derived.OpenShut
import Derived.Test.YtakdnodgcdddeaaGQ
import Derived.Test.YtakdnodgcdddeaaLiftA
namespace Go.Proofs.Ytakdnodgcdddeaa.rngAll
open Go.ChangeShapes Go.WideShapes Go.ChangeAt Go.RowKit
set_option linter.unusedVariables false

theorem own : ownKnob Try.prog.godebug = none := by kernel_rfl

set_option maxRecDepth 100000 in
theorem lifted (os : Os) (started : os.Started) (H : Type) (enc : TypeId × Value → H) :
    ReturnsInHanded {} Try.checked os 6 .any (Rows.rngAllSpec.pre6 enc Try.prog Try.f6 Rows.rngAllRow.domain false) (Rows.rngAllSpec.post enc Try.prog Try.f6 false true false false) := by
  refine returnsInHanded_of_change (C := Try.checked) own started (by kernel_rfl) Try.func6
    (ChangeSpec.witness6 (enc := enc) (C := Try.checked) false ⟨#[], #[.slice none 0 0], []⟩ 8 (by kernel_rfl) (by kernel_rfl) (by kernel_rfl) (by kernel_rfl)) ?_
  intro W base args ds gs before hval0 hW hcnd _
  have hval : ∀ (j : Nat) t v, Try.f6.params[j]? = some t → args[j]? = some v → Value.okWide Try.prog W .any base t v := hval0
  have hW' := hW
  obtain ⟨p, q, hA0, hV, rfl, hfz, hnd⟩ := hW
  have hA : DataW.TrodAll enc Try.prog W 0 (fun _ => true) true Try.f6.params.toList args.toList ds p := hA0
  have hAk : DataW.TrodAll enc Try.prog W 0 (fun _ => true) true [31] args.toList ds p := by rw [Try.params6] at hA; exact hA
  have hlt : ∀ x ∈ p, x.block < W.heap.size := fun x hx => by simpa using hW'.lt x (List.mem_append.2 (.inl hx))
  rw [Try.params6] at hA hval
  obtain ⟨v0, vs0, d0, ds0, p0, q0, hargs, rfl, rfl, h0, r0⟩ := trodAll_cons hA
  obtain ⟨rfl, rfl, rfl⟩ := trodAll_nil r0
  obtain rfl : args = #[v0] := by cases args; simp_all
  obtain ⟨rfl, rfl⟩ := trodVars_none hV
  obtain ⟨ar0, len0, cap0, rfl, hS0⟩ := open_asks (hval 0 31 v0 rfl rfl) h0
  clear hA0 hval0
  refine (rngAll_true W ar0 len0 cap0 hS0).mono fun e W' ⟨he, hk⟩ => ?_
  subst he
  refine ⟨_, rfl, _, _, _, [], p0 ++ ([]), [], hW', (trodAll_cons_mk (shut_bool Try.underlying4 _) trodAll_mk0), ?_, rfl, hk.frame _, fun h => (by cases h)⟩
  have hsp : ∀ x ∈ p0 ++ ([]), (fun b => decide (b < W.heap.size)) x.block = true := fun x hx => by simpa using hlt x hx
  have := trodAll_stays (sp := fun b => decide (b < W.heap.size)) (W' := W') (fun t ht => ?_) hAk (fun x hx => hk.same (hlt x hx)) (fun x hx => hsp x hx)
  · exact (show Try.f6.params.toList = [31] by rw [Try.params6]) ▸ this
  · have hall : ([31].all fun u => Try.prog.readableRec u && decide (u < Try.prog.types.size)) = true := by kernel_rfl
    have := List.all_eq_true.1 hall t ht
    simp only [Bool.and_eq_true, decide_eq_true_eq] at this
    exact this

theorem over : Rows.rngAllRow.holds Try.pinned (OpenSpec.ofChange Rows.rngAllSpec) :=
  OpenClaim.holds_of_wide 6 Try.f6 rfl rfl rfl rfl rfl rfl rfl ⟨rfl, rfl, rfl, rfl, rfl⟩ rfl rfl rfl rfl rfl (by kernel_rfl) Try.func6 (by kernel_rfl)
    (of_decide_eq_true (by kernel_rfl)) (by unfold Func.isWrapper; first | (rw [if_pos (by decide +kernel)]; kernel_rfl) | (rw [if_neg (by decide +kernel)]; exact ⟨rfl, rfl⟩))
    (fun os started H enc _ => lifted os started H enc)

/-- The statement of the row. -/
theorem proved : Rows.RngAllSaid :=
  over
end Go.Proofs.Ytakdnodgcdddeaa.rngAll

namespace Go.Proofs.Ytakdnodgcdddeaa
theorem rngAll_holds : Rows.RngAllSaid := rngAll.proved
#print axioms rngAll_holds
end Go.Proofs.Ytakdnodgcdddeaa
