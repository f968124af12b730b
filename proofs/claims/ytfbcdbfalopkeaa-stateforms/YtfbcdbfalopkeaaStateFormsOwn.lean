/- A state in form in which one thing is wrong (a step, too many matrices or lists, a width, sides, bits, an element) is refused by Check and Write with no bytes: for every state and every choice the law returns true, and its arguments read as before. No condition. -/
import Derived.Test.YtfbcdbfalopkeaaRows
import Derived.WalkKit
import Derived.ProofKit
import Derived.OpenShut
import Derived.Test.YtfbcdbfalopkeaaXF
import Derived.Test.YtfbcdbfalopkeaaLiftW
namespace Go.Proofs.Ytfbcdbfalopkeaa.stateForms
open Go.ChangeShapes Go.WideShapes Go.ChangeAt Go.RowKit
set_option linter.unusedVariables false

theorem own : ownKnob Try.prog.godebug = none := by kernel_rfl

set_option maxHeartbeats 4000000 in
set_option maxRecDepth 100000 in
theorem lifted (os : Os) (started : os.Started) (H : Type) (enc : TypeId × Value → H) :
    ReturnsInHanded {} Try.checked os 6 .any (Rows.stateFormsSpec.pre6 enc Try.prog Try.f6 Rows.stateFormsRow.domain false) (Rows.stateFormsSpec.post enc Try.prog Try.f6 false true false false) := by
  refine returnsInHanded_of_change (C := Try.checked) own started (by kernel_rfl) Try.func6
    (ChangeSpec.witness6 (enc := enc) (C := Try.checked) false ⟨#[], #[.agg #[.int .i64 0, .int .i64 0, .int .i64 0, .slice none 0 0, .slice none 0 0, .int .i64 0, .int .i64 0], .int .i64 0, .int .i64 0], []⟩ 8 (by kernel_rfl) (by kernel_rfl) (by kernel_rfl) (by kernel_rfl)) ?_
  intro W base args ds gs before hval0 hW hcnd _
  have hval : ∀ (j : Nat) t v, Try.f6.params[j]? = some t → args[j]? = some v → Value.okWide Try.prog W .any base t v := hval0
  have hW' := hW
  obtain ⟨p, q, hA0, hV, rfl, hfz, hnd⟩ := hW
  have hA : DataW.TrodAll enc Try.prog W 0 (fun _ => true) true Try.f6.params.toList args.toList ds p := hA0
  have hAk : DataW.TrodAll enc Try.prog W 0 (fun _ => true) true [25, 3, 3] args.toList ds p := by rw [Try.params6] at hA; exact hA
  have hlt : ∀ x ∈ p, x.block < W.heap.size := fun x hx => by simpa using hW'.lt x (List.mem_append.2 (.inl hx))
  rw [Try.params6] at hA hval
  obtain ⟨v0, vs0, d0, ds0, p0, q0, hargs, rfl, rfl, h0, r0⟩ := trodAll_cons hA
  obtain ⟨v1, vs1, d1, ds1, p1, q1, rfl, rfl, rfl, h1, r1⟩ := trodAll_cons r0
  obtain ⟨v2, vs2, d2, ds2, p2, q2, rfl, rfl, rfl, h2, r2⟩ := trodAll_cons r1
  obtain ⟨rfl, rfl, rfl⟩ := trodAll_nil r2
  obtain rfl : args = #[v0, v1, v2] := by cases args; simp_all
  obtain ⟨rfl, rfl⟩ := trodVars_none hV
  obtain ⟨s0, hS0, hr0, hp0, hq0, hl0⟩ := open_state (hval 0 25 v0 rfl rfl) h0
  obtain ⟨a1, rfl, -, -, wf1⟩ := open_int Try.underlying3 (hval 1 3 v1 rfl rfl) h1
  obtain ⟨a2, rfl, -, -, wf2⟩ := open_int Try.underlying3 (hval 2 3 v2 rfl rfl) h2
  clear hA0 hval0
  refine (stateForms_true v0 s0 a1 a2 (wf_rng a1 wf1).1 (wf_rng a1 wf1).2 W hS0 ⟨(slen_of s0 hp0 hq0 hl0).1, (slen_of s0 hp0 hq0 hl0).2.1, (slen_of s0 hp0 hq0 hl0).2.2⟩).mono fun e W' ⟨he, hk⟩ => ?_
  subst he
  have hg := hk.grown
  refine ⟨_, rfl, post_of_same (pa := p0 ++ (p1 ++ (p2 ++ ([])))) (pv := []) hW' (fun _ _ _ => (trodAll_cons_mk (shut_bool Try.underlying4 _) trodAll_mk0)) (fun sp hsp => ?_) (fun _ _ => rfl) rfl (hg.frame _) hg.2.1 (ok_one (by kernel_rfl) rfl (okWide_bool_mk Try.underlying4 _))⟩
  have := trodAll_stays (sp := sp) (W' := W') (fun t ht => ?_) hAk (fun x hx => hk.below.same (hlt x hx)) (fun x hx => hsp x (List.mem_append.2 (.inl hx)))
  · exact (show Try.f6.params.toList = [25, 3, 3] by rw [Try.params6]) ▸ this
  · have hall : ([25, 3, 3].all fun u => Try.prog.readableRec u && decide (u < Try.prog.types.size)) = true := by kernel_rfl
    have := List.all_eq_true.1 hall t ht
    simp only [Bool.and_eq_true, decide_eq_true_eq] at this
    exact this

theorem over : Rows.stateFormsRow.holds Try.pinned (OpenSpec.ofChange Rows.stateFormsSpec) :=
  OpenClaim.holds_of_wide 6 Try.f6 rfl rfl rfl rfl rfl rfl rfl ⟨rfl, rfl, rfl, rfl, rfl⟩ rfl rfl rfl rfl rfl (by kernel_rfl) Try.func6 (by kernel_rfl)
    (of_decide_eq_true (by kernel_rfl)) (by unfold Func.isWrapper; first | (rw [if_pos (by decide +kernel)]; kernel_rfl) | (rw [if_neg (by decide +kernel)]; exact ⟨rfl, rfl⟩))
    (fun os started H enc _ => lifted os started H enc)

/-- The statement of the row. -/
theorem proved : Rows.StateFormsSaid :=
  over
end Go.Proofs.Ytfbcdbfalopkeaa.stateForms

namespace Go.Proofs.Ytfbcdbfalopkeaa
theorem stateForms_holds : Rows.StateFormsSaid := stateForms.proved
#print axioms stateForms_holds
end Go.Proofs.Ytfbcdbfalopkeaa
