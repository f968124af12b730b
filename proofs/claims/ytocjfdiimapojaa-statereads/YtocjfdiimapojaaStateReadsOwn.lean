/- For every slice of bytes whose length is no more than its capacity, StateReads answers true: what Read, the document and Sum tell of the bytes is one, and what was read is kept in memory of its own -/
import Derived.Test.YtocjfdiimapojaaRows
import Derived.WalkKit
import Derived.ProofKit
import Derived.OpenShut
import Derived.Test.YtocjfdiimapojaaLF
import Derived.Test.YtocjfdiimapojaaLiftW
namespace Go.Proofs.Ytocjfdiimapojaa.stateReads
open Go.ChangeShapes Go.WideShapes Go.ChangeAt Go.RowKit
set_option linter.unusedVariables false

theorem own : ownKnob Try.prog.godebug = none := by kernel_rfl

set_option maxHeartbeats 4000000 in
set_option maxRecDepth 100000 in
theorem lifted (os : Os) (started : os.Started) (H : Type) (enc : TypeId × Value → H) :
    ReturnsInHanded {} Try.checked os 3 .any (Rows.stateReadsSpec.pre6 enc Try.prog Try.f3 Rows.stateReadsRow.domain false) (Rows.stateReadsSpec.post enc Try.prog Try.f3 false true false false) := by
  refine returnsInHanded_of_change (C := Try.checked) own started (by kernel_rfl) Try.func3
    (ChangeSpec.witness6 (enc := enc) (C := Try.checked) false ⟨#[], #[.slice none 0 0], []⟩ 8 (by kernel_rfl) (by kernel_rfl) (by kernel_rfl) (by kernel_rfl)) ?_
  intro W base args ds gs before hval0 hW hcnd _
  have hval : ∀ (j : Nat) t v, Try.f3.params[j]? = some t → args[j]? = some v → Value.okWide Try.prog W .any base t v := hval0
  have hW' := hW
  obtain ⟨p, q, hA0, hV, rfl, hfz, hnd⟩ := hW
  have hA : DataW.TrodAll enc Try.prog W 0 (fun _ => true) true Try.f3.params.toList args.toList ds p := hA0
  have hAk : DataW.TrodAll enc Try.prog W 0 (fun _ => true) true [22] args.toList ds p := by rw [Try.params3] at hA; exact hA
  have hlt : ∀ x ∈ p, x.block < W.heap.size := fun x hx => by simpa using hW'.lt x (List.mem_append.2 (.inl hx))
  rw [Try.params3] at hA hval
  obtain ⟨v0, vs0, d0, ds0, p0, q0, hargs, rfl, rfl, h0, r0⟩ := trodAll_cons hA
  obtain ⟨rfl, rfl, rfl⟩ := trodAll_nil r0
  obtain rfl : args = #[v0] := by cases args; simp_all
  obtain ⟨rfl, rfl⟩ := trodVars_none hV
  obtain ⟨s0, l0, c0, rfl⟩ := okWide_slice Try.underlying22 (hval 0 22 v0 rfl rfl)
  obtain ⟨fuel0, hf0⟩ := h0
  obtain ⟨L0, ar0, cr0, e0, hB0, hc0, hm0, hR0⟩ := open_bytes hf0
  simp only [Value.cells, List.cons.injEq, and_true] at e0
  obtain ⟨rfl, rfl, rfl⟩ : s0 = ar0 ∧ l0 = L0.length ∧ c0 = cr0 := by simpa using e0
  clear hA0 hval0
  refine (stateReads_true s0 c0 L0 hB0 hc0 hm0 W hR0).mono fun e W' ⟨he, hk⟩ => ?_
  subst he
  have hg := hk.grown
  refine ⟨_, rfl, post_of_same (pa := p0 ++ ([])) (pv := []) hW' (fun _ _ _ => (trodAll_cons_mk (shut_bool Try.underlying4 _) trodAll_mk0)) (fun sp hsp => ?_) (fun _ _ => rfl) rfl (hg.frame _) hg.2.1 (ok_one (by kernel_rfl) rfl (okWide_bool_mk Try.underlying4 _))⟩
  have := trodAll_stays (sp := sp) (W' := W') (fun t ht => ?_) hAk (fun x hx => hk.below.same (hlt x hx)) (fun x hx => hsp x (List.mem_append.2 (.inl hx)))
  · exact (show Try.f3.params.toList = [22] by rw [Try.params3]) ▸ this
  · have hall : ([22].all fun u => Try.prog.readableRec u && decide (u < Try.prog.types.size)) = true := by kernel_rfl
    have := List.all_eq_true.1 hall t ht
    simp only [Bool.and_eq_true, decide_eq_true_eq] at this
    exact this

theorem over : Rows.stateReadsRow.holds Try.pinned (OpenSpec.ofChange Rows.stateReadsSpec) :=
  OpenClaim.holds_of_wide 3 Try.f3 rfl rfl rfl rfl rfl rfl rfl ⟨rfl, rfl, rfl, rfl, rfl⟩ rfl rfl rfl rfl rfl (by kernel_rfl) Try.func3 (by kernel_rfl)
    (of_decide_eq_true (by kernel_rfl)) (by unfold Func.isWrapper; first | (rw [if_pos (by decide +kernel)]; kernel_rfl) | (rw [if_neg (by decide +kernel)]; exact ⟨rfl, rfl⟩))
    (fun os started H enc _ => lifted os started H enc)

/-- The statement of the row. -/
theorem proved : Rows.StateReadsSaid :=
  over
end Go.Proofs.Ytocjfdiimapojaa.stateReads

namespace Go.Proofs.Ytocjfdiimapojaa
theorem stateReads_holds : Rows.StateReadsSaid := stateReads.proved
#print axioms stateReads_holds
end Go.Proofs.Ytocjfdiimapojaa
