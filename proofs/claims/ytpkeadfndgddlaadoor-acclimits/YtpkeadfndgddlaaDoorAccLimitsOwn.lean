/- For every int that is handed in: where it is a multiple of 64, acc's Sum and Dot of 65,536 ones tell 65,536, with one more they refuse (too long), of lists of two lengths Dot refuses, a sum that is too long and a sum that is none are refused; always the small sums of the test of life come out right: AccLimits answers true. Conditions: none. -/
import Derived.Test.YtpkeadfndgddlaaDoorRows
import Derived.WalkKit
import Derived.ProofKit
import Derived.OpenShut
import Derived.LaidMore
import Derived.Lib.LaidTab
import Derived.Stop.Joined
import Derived.SevenTiedAt
import Derived.Test.YtpkeadfndgddlaaDoorTie
import Derived.Test.YtpkeadfndgddlaaDoorCards
import Derived.Test.YtpkeadfndgddlaaDoorZl48
namespace Go.Proofs.YtpkeadfndgddlaaDoor.accLimits
open Go.ChangeShapes Go.WideShapes Go.ChangeAt Go.RowKit
set_option maxHeartbeats 16000000
set_option maxRecDepth 100000
set_option linter.unusedVariables false
theorem own : ownKnob Tryd.prog.godebug = none := by kernel_rfl
/-- The heap that the door's own run leaves meets the condition: closed facts. -/
theorem door_met (os : Os) (args : Array Value) : laidMetH Tryd.prog Rows.accLimitsRow.laid ((World.doorLaid Tryd.prog 4000 os).forCall (fun _ _ => 0) ⟨#[], args, []⟩).memory :=
 laidMetH_of_parts3 (fuel := 8) (laidMet_of_run' 8 (by kernel_rfl) (by kernel_rfl)) (by kernel_rfl) (by kernel_rfl)
theorem g64 : Tryd.prog.globalNamed (Rows.accLimitsRow.laid[1]).1 = some 2 := by kernel_rfl
theorem t64 : (Tryd.prog.globals[2]?).map (·.type) = some 141 := by kernel_rfl
/-- What the condition gives the walk: the table of 64 lies in its variable. -/
theorem tab_of_laid {W : World} (h : laidMetH Tryd.prog Rows.accLimitsRow.laid W) : Tab W := by
 rw [MakeChecks.laidMetH_plain _ _ _ (by kernel_rfl)] at h
 obtain ⟨ps, ⟨g0, t0, cs0, f0, p0, q0, hg0, ht0, hv0, hd0, ⟨g1, t1, cs1, f1, p1, q1, hg1, ht1, hv1, hd1, _, _⟩, _⟩, _, _⟩ := h
 obtain rfl := Option.some.inj (g64.symm.trans hg1)
 obtain rfl := Option.some.inj (t64.symm.trans ht1)
 have e := Lib.cells_of_tab (k := .u8) (zs := Lib.deBruijn64tab.map Int.ofNat) Tryd.underlying141 Tryd.underlying5 (by kernel_rfl) (by kernel_rfl) hd1
 have hcell : ∀ j, j < 64 → W.cell? ⟨2, j, none⟩ = some (.int .u8 (Lib.deBruijn64tab.getD j 0)) := by
  intro j hj
  have hc := World.var?_cell hg1 hv1 j
  rw [hc, ← Array.getElem?_toList, e]
  have hl : j < Lib.deBruijn64tab.length := hj
  simp [List.getD, hl]
 refine ⟨?_, hcell⟩
 have h0 := hcell 0 (by decide)
 by_cases hs : 2 < W.heap.size
 ·omega
 ·have hn : W.heap[2]? = none := by simp; omega
  simp [World.cell?, hn] at h0
theorem lifted (os : Os) (started : os.Started) (H : Type) (enc : TypeId × Value → H) :
  ReturnsInHanded {} Tryd.checked os 3 .any (fun w args => (Rows.accLimitsSpec.pre enc Tryd.prog Tryd.f3 [] false w args ∧ laidMetH Tryd.prog Rows.accLimitsRow.laid w) ∧ sizedMet enc Tryd.prog Tryd.f3 (OpenSpec.ofChange Rows.accLimitsSpec) false w args) (Rows.accLimitsSpec.post enc Tryd.prog Tryd.f3 false true false false) := by
 refine returnsInHanded_of_change_and (C := Tryd.checked) (X := fun w _ => laidMetH Tryd.prog Rows.accLimitsRow.laid w) (fun _ _ _ hh h => h.of_heap hh) own started (by kernel_rfl) Tryd.func3
  (ChangeSpec.witness_shaped (enc := enc) (C := Tryd.checked) (os := os) (X := fun w _ => laidMetH Tryd.prog Rows.accLimitsRow.laid w) false (World.doorLaid Tryd.prog 4000 os) #[.int .i64 0] 8 rfl (World.shaped_of_RefB (by kernel_rfl) (by kernel_rfl)) (by kernel_rfl) (by kernel_rfl) (by kernel_rfl) (door_met os _)) ?_
 intro W base args ds gs before hval0 hW _ _ hL _
 have hval : ∀ (j : Nat) t v, Tryd.f3.params[j]? = some t → args[j]? = some v → Value.okWide Tryd.prog W .any base t v := hval0
 have hW' := hW
 obtain ⟨p, q, hA0, hV, rfl, hfz, hnd⟩ := hW
 have hA : DataW.TrodAll enc Tryd.prog W 0 (fun _ => true) true Tryd.f3.params.toList args.toList ds p := hA0
 have hAk : DataW.TrodAll enc Tryd.prog W 0 (fun _ => true) true [3] args.toList ds p := by rw [Tryd.params3] at hA; exact hA
 have hlt : ∀ x ∈ p, x.block < W.heap.size := fun x hx => by simpa using hW'.lt x (List.mem_append.2 (.inl hx))
 rw [Tryd.params3] at hA hval
 obtain ⟨v0, vs0, d0, ds0, p0, q0, hargs, rfl, rfl, h0, r0⟩ := trodAll_cons hA
 obtain ⟨rfl, rfl, rfl⟩ := trodAll_nil r0
 obtain rfl : args = #[v0] := by cases args; simp_all
 obtain ⟨rfl, rfl⟩ := trodVars_none hV
 obtain ⟨a0, rfl, -, -, wf0⟩ := open_int Tryd.underlying3 (hval 0 3 v0 rfl rfl) h0
 clear hA0 hval0
 refine (accLimits_true W (tab_of_laid hL) a0 (wf_rng a0 wf0).1 (wf_rng a0 wf0).2).mono fun e W' ⟨he, hk⟩ => ?_
 subst he
 have hg := hk.grown
 refine ⟨_, rfl, post_of_same (pa := p0 ++ ([])) (pv := []) hW' (fun _ _ _ => (trodAll_cons_mk (shut_bool Tryd.underlying4 _) trodAll_mk0)) (fun sp hsp => ?_) (fun _ _ => rfl) rfl (hg.frame _) hg.2.1 (ok_one (by kernel_rfl) rfl (okWide_bool_mk Tryd.underlying4 _))⟩
 have := trodAll_stays (sp := sp) (W' := W') (fun t ht => ?_) hAk (fun x hx => hk.below.same (hlt x hx)) (fun x hx => hsp x (List.mem_append.2 (.inl hx)))
 ·exact (show Tryd.f3.params.toList = [3] by rw [Tryd.params3]) ▸ this
 ·have hall : ([3].all fun u => Tryd.prog.readableRec u && decide (u < Tryd.prog.types.size)) = true := by kernel_rfl
  have := List.all_eq_true.1 hall t ht
  simp only [Bool.and_eq_true, decide_eq_true_eq] at this
  exact this
theorem over : Rows.accLimitsRow.holds Tryd.pinned (OpenSpec.ofChange Rows.accLimitsSpec) :=
 OpenClaim.holds_of_wide 3 Tryd.f3 rfl rfl rfl rfl rfl rfl rfl ⟨rfl, rfl, rfl, rfl, rfl⟩ rfl rfl rfl rfl rfl (by kernel_rfl) Tryd.func3 (by kernel_rfl)
  (of_decide_eq_true (by kernel_rfl)) (by unfold Func.isWrapper; first | (rw [if_pos (by decide +kernel)]; kernel_rfl) | (rw [if_neg (by decide +kernel)]; exact ⟨rfl, rfl⟩))
  (fun os started H enc _ => lifted os started H enc)
/-- The statement of the row. -/
theorem proved : Rows.AccLimitsSaid :=
 over
end Go.Proofs.YtpkeadfndgddlaaDoor.accLimits
namespace Go.Proofs.YtpkeadfndgddlaaDoor
open Go
set_option linter.unusedVariables false
set_option linter.unusedSimpArgs false
set_option maxHeartbeats 16000000
set_option maxRecDepth 100000
/-- The tied card. -/
theorem accLimits_card : Rows.AccLimitsCardSaid :=
 Claim7.holds_tied_plain_at .later [] [.data, .data] true (true, "3ab60b4ed36a8f624ea7a9d2ed1dc74ef50d040b05c3c963aa202a47d66ca18c") false
  accLimits.proved (fun _ h => by cases h) (by kernel_rfl) (fun _ h => by cases h) accLimits_row_tie rfl ⟨rfl, rfl⟩ (by kernel_rfl) rfl
  (fun f fn hf hfn => by
   obtain rfl : f = 3 := Option.some.inj ((show Tryd.prog.funcNamed Tryd.f3.name = some 3 by kernel_rfl).symm.trans hf) |>.symm
   obtain rfl : fn = Tryd.f3 := (Option.some.inj (Tryd.func3.symm.trans hfn)).symm
   exact ⟨by kernel_rfl, fun j t ht => by
    rw [Tryd.params3] at ht
    have hm : t ∈ ([3] : List TypeId) := by simpa using Array.mem_of_getElem? ht
    have hall : ([3].all fun u => !Tryd.prog.wantsStandIn u) = true := by kernel_rfl
    exact (show Tryd.prog.wantsStandIn t = false by simpa using List.all_eq_true.1 hall t hm)⟩)
  (by kernel_rfl)
#print axioms accLimits_card
end Go.Proofs.YtpkeadfndgddlaaDoor
