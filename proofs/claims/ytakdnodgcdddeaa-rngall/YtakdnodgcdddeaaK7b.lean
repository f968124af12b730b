/- The walk of the laws' own Keep.Apart: no two lists that were answered share memory. -/
import Derived.Test.YtakdnodgcdddeaaK6b
namespace Go.Proofs.Ytakdnodgcdddeaa
open Go.ChangeShapes Go.WideShapes Go.ChangeAt Go.RowKit
set_option linter.unusedVariables false
set_option linter.unusedSimpArgs false

theorem wpList_append_run2 {P : Program} {w : World} {ops : Array Oper} {rest : List Oper} {o : Oper} {a : Act} {Q : Exit → Act → World → Prop} (hgd : o.guard = none) (s x : Operand) (t tx : TypeId)
    (ho : o.op = .call { callee := .builtin .append, args := #[s, x], argTypes := #[t, tx] }) (v xv : Value) (hs : a.eval s = v) (hx : a.eval x = xv) (v' : Value) (w' : World)
    (hr : (Builtin.append_ #[t, tx] o.type #[v, xv]).run P w = .ok v' w') (h : wpList P ops Q rest (a.put o.dst v') w') : wpList P ops Q (o :: rest) a w := by
  refine wpList_plain hgd fun K hK => ?_
  unfold Oper.wp execOp
  simp only [ho, resolve, invoke, builtin, Sem.run_bind, Sem.run_pure, Result.andThen_ok, List.map_toArray, List.map_cons, List.map_nil, hs, hx, hr]
  exact hK _ _ h

set_option maxHeartbeats 8000000 in
set_option maxRecDepth 100000 in
theorem apart_true (w0 w : World) (kb : Nat) (vL vW : Value) (E : List Ent) (hK : KeepAt w0 w kb vL vW E) (hE : E.length ≤ 300) : Calls Try.prog 13 #[.pointer (some ⟨kb, 0, none⟩)] w fun e w' => e = .returned (.bool true) ∧ Bel w0 w' := by
  obtain ⟨aL, cL, eL⟩ := hK.rows.shape
  obtain ⟨aW, cW, eW⟩ := hK.was.shape
  rw [List.length_map] at eL eW
  subst eL eW
  obtain ⟨hX0, n, hX⟩ := keepM_facts hK
  have X0 : Hid (∀ u M, KeepM w0 kb (.slice aL E.length cL) E u M → u.cell? ⟨kb, 0, none⟩ = some (.slice aL E.length cL)) := hX0
  have X : Hid _ := hX
  have KM : Hid (∀ u, Kept w u → ∃ M, KeepM w0 kb (.slice aL E.length cL) E u M) := fun u k => ⟨fun i => (E.getD i ⟨.bool false, .bool false, []⟩).L, hK.kept.trans k, ⟨_, (k.below.block kb (lt_of_block hK.cells)).trans hK.cells⟩, hK.rows.kept k, fun i hi => by
    have eD : E.getD i ⟨.bool false, .bool false, []⟩ = E[i] := by rw [List.getD_eq_getElem?_getD, List.getElem?_eq_getElem hi]; rfl
    rw [eD]
    exact ((hK.each E[i] (List.getElem_mem hi)).1).kept k⟩
  have QK : Hid (∀ u M, KeepM w0 kb (.slice aL E.length cL) E u M → Bel w0 u) := fun u M h => h.kept
  have F1 : Hid (∀ u, Kept w u → u.cell? ⟨kb, 0, none⟩ = some (.slice aL E.length cL) ∧ u.cell? ⟨kb, 1, none⟩ = some (.slice aW E.length cW)) := fun u k => by
    have hc := (k.below.block kb (lt_of_block hK.cells)).trans hK.cells
    exact ⟨by rw [cell_of_row u kb 0 _ _ _ hc]; rfl, by rw [cell_of_row u kb 1 _ _ _ hc]; rfl⟩
  have F2 : Hid (∀ k, k < E.length → ∃ gL gW al m cl au cu, aL = some ⟨gL, 0, none⟩ ∧ aW = some ⟨gW, 0, none⟩ ∧ ∀ u, Kept w u → (u.cell? ⟨gL, k, none⟩ = some (.slice al m cl) ∧ u.cell? ⟨gW, k, none⟩ = some (.slice au m cu)) ∧ Calls Try.prog 21 #[.slice al m cl, .slice au m cu] u fun e w' => e = .returned (.bool true) ∧ Kept u w') := fun k hk => by
    obtain ⟨hv, hu, hlen⟩ := hK.each E[k] (List.getElem_mem hk)
    have hne : ¬ E = [] := fun e => by subst e; simp at hk
    rcases hK.rows with ⟨e, -⟩ | ⟨gL, c1, e1, -⟩
    · simp [hne] at e
    rcases hK.was with ⟨e, -⟩ | ⟨gW, c2, e2, -⟩
    · simp [hne] at e
    injection e1 with e1 _ e11
    injection e2 with e2 _ e21
    obtain ⟨al, cl, ev⟩ := hv.shape
    obtain ⟨au, cu, eu⟩ := hu.shape
    rw [List.length_map] at ev eu
    subst e1 e2
    refine ⟨gL, gW, al, (E[k]).L.length, cl, au, cu, rfl, rfl, fun u k' => ⟨⟨?_, ?_⟩, ?_⟩⟩
    · rcases hK.rows.kept k' with ⟨e, -⟩ | ⟨g, c, e, hO⟩
      · simp [hne] at e
      · injection e with e1 e2 e3
        injection e1 with e1
        injection e1 with e1
        subst e1
        refine hO.cell k _ ?_
        rw [List.getElem?_map, List.getElem?_eq_getElem hk]
        simp [ev]
    · rcases hK.was.kept k' with ⟨e, -⟩ | ⟨g, c, e, hO⟩
      · simp [hne] at e
      · injection e with e1 e2 e3
        injection e1 with e1
        injection e1 with e1
        subst e1
        refine hO.cell k _ ?_
        rw [List.getElem?_map, List.getElem?_eq_getElem hk]
        simp [eu]
    · have s1 := (hv.kept k').sl
      have s2 := (hu.kept k').sl
      rw [ev] at s1
      rw [eu] at s2
      exact same_true _ (by omega) _ _ _ s1 s2
  clear hX0 hX hK
  generalize KeepM w0 kb (.slice aL E.length cL) E = Q at *
  generalize E.length = nE at *
  go_enter Try.func13, Try.ntmps13
  go_wp2
  go_loopw [3] (fun i wr => ∃ k : Nat, k ≤ nE ∧ i = .int .i64 k ∧ Kept w wr) (fun i _ => nE - (intOf i).toNat)
  case atStart => exact ⟨0, Nat.zero_le _, rfl, Kept.refl _⟩
  case round =>
    obtain ⟨k, hk, rfl, hKr⟩ := hrel
    obtain ⟨c0, c1⟩ := F1.out _ hKr
    by_cases hkn : k < nE
    · obtain ⟨gL, gW, al, m, cl, au, cu, rfl, rfl, hF⟩ := F2.out k hkn
      have HF : Hid (∀ u, Kept w u → (u.cell? ⟨gL, k, none⟩ = some (.slice al m cl) ∧ u.cell? ⟨gW, k, none⟩ = some (.slice au m cu)) ∧ Calls Try.prog 21 #[.slice al m cl, .slice au m cu] u fun e w' => e = .returned (.bool true) ∧ Kept u w') := hF
      have HS : Hid (∀ u, Kept w u → Kept w u ∧ (u.cell? ⟨kb, 0, none⟩ = some (.slice (some ⟨gL, 0, none⟩) nE cL) ∧ u.cell? ⟨kb, 1, none⟩ = some (.slice (some ⟨gW, 0, none⟩) nE cW)) ∧ u.cell? ⟨gL, k, none⟩ = some (.slice al m cl) ∧ u.cell? ⟨gW, k, none⟩ = some (.slice au m cu)) := fun u k' => ⟨k', F1.out u k', (hF u k').1⟩
      clear hF
      go_wp2
      go_region_held (fun u => Kept w u ∧ (u.cell? ⟨kb, 0, none⟩ = some (.slice (some ⟨gL, 0, none⟩) nE cL) ∧ u.cell? ⟨kb, 1, none⟩ = some (.slice (some ⟨gW, 0, none⟩) nE cW)) ∧ u.cell? ⟨gL, k, none⟩ = some (.slice al m cl) ∧ u.cell? ⟨gW, k, none⟩ = some (.slice au m cu)) (first | exact HS.out _ hKr.drew | assumption) (first | (go_at_call 21; refine ((HF.out _ hKr.drew).2).mono ?_; rintro e w1 ⟨rfl, k1⟩; have e0 := HS.out _ (hKr.drew.trans k1)))
      all_goals
        go_wp2
        go_roundw
        case rel => exact ⟨k + 1, by omega, by go_num, hKr.drew.trans k1⟩
        case measure => simp [intOf]; omega
    · obtain rfl : k = nE := by omega
      obtain ⟨M0, hQ0⟩ := KM.out _ hKr
      clear KM F1 F2
      go_wp2
      go_loopw [4] (fun r wr => ∃ (q : Int) (M : Nat → List Int), (q = 0 ∨ q = 1 ∨ q = 2 ∨ q = 3) ∧ r = .int .i64 q ∧ Q wr M ∧ (0 < q → Mk n M k 0)) (fun r _ => 3 - (intOf r).toNat)
      case atStart => exact ⟨0, M0, by omega, rfl, hQ0, fun h => by omega⟩
      case round =>
        obtain ⟨q, M, hq, rfl, hQ, hM⟩ := hrel
        clear hQ0 hKr c0 c1
        rcases hq with rfl | rfl | rfl | rfl
        · go_wp2
          go_loopw [5] (fun i wr => ∃ (i' : Nat) (M : Nat → List Int), i' ≤ k ∧ i = .int .i64 i' ∧ Q wr M ∧ Mk n M i' 0) (fun i _ => k - (intOf i).toNat)
          case atStart => exact ⟨0, M, by omega, rfl, hQ, Mk.start n M⟩
          case round =>
            clear hQ hM
            obtain ⟨i', M, hi', rfl, hQ, hM⟩ := hrel
            have c0 := X0.out _ _ hQ
            by_cases hin : i' < k
            · obtain ⟨hn, gL, al, cl, rfl, hc, hm, hg⟩ := X.out i' hin
              have HM : Hid _ := hm
              have HC : Hid _ := hc
              clear hm hc hg
              go_wp2
              go_loopw [6] (fun jv wr => ∃ (j : Nat) (M : Nat → List Int), j ≤ n i' ∧ jv = .int .i64 j ∧ Q wr M ∧ Mk n M i' j) (fun jv _ => n i' - (intOf jv).toNat)
              case atStart => exact ⟨0, M, by omega, rfl, hQ, hM⟩
              case round =>
                clear hQ hM c0
                obtain ⟨j, M, hj, rfl, hQ, hM⟩ := hrel
                have c0 := X0.out _ _ hQ
                have c1 := HC.out _ _ hQ
                by_cases hjn : j < n i'
                · obtain ⟨gi, rfl, hmm⟩ := HM.out j hjn
                  obtain ⟨hl, hcell, hfr, hset⟩ := hmm _ _ hQ
                  have HSet : Hid (∀ x, Q (wr.setCell ⟨gi, j, none⟩ (.int .i64 x)) (updM M i' ((M i').set j x))) := hset
                  clear hset hmm
                  go_wp2
                  go_roundw
                  case rel => exact ⟨j + 1, _, by omega, by go_num, HSet.out _, hM.step (by omega)⟩
                  case measure => simp [intOf]; omega
                · obtain rfl : j = n i' := by omega
                  go_wp2
                  refine wp_loop_rounds 1 ?_
                  rw [rounds_succ]
                  go_wp2
                  go_roundw
                  case rel => exact ⟨i' + 1, M, by omega, by go_num, hQ, hM.next⟩
                  case measure => simp [intOf]; omega
            · obtain rfl : i' = k := by omega
              go_wp2
              go_roundw
              case rel => exact ⟨1, M, by omega, rfl, hQ, fun _ => hM⟩
              case measure => simp [intOf]
        · go_wp2
          have HMk : Hid (Mk n M k 0) := hM (by omega)
          clear hM
          go_loopw [5] (fun i wr => ∃ (i' : Nat), i' ≤ k ∧ i = .int .i64 i' ∧ Q wr M) (fun i _ => k - (intOf i).toNat)
          case atStart => exact ⟨0, by omega, rfl, hQ⟩
          case round =>
            clear hQ
            obtain ⟨i', hi', rfl, hQ⟩ := hrel
            have c0 := X0.out _ _ hQ
            by_cases hin : i' < k
            · obtain ⟨hn, gL, al, cl, rfl, hc, hm, hg⟩ := X.out i' hin
              have HM : Hid _ := hm
              have HC : Hid _ := hc
              have HG : Hid _ := hg
              clear hm hc hg
              go_wp2
              go_loopw [6] (fun jv wr => ∃ (j : Nat), j ≤ n i' ∧ jv = .int .i64 j ∧ Q wr M) (fun jv _ => n i' - (intOf jv).toNat)
              case atStart => exact ⟨0, by omega, rfl, hQ⟩
              case round =>
                clear hQ c0
                obtain ⟨j, hj, rfl, hQ⟩ := hrel
                have c0 := X0.out _ _ hQ
                have c1 := HC.out _ _ hQ
                by_cases hjn : j < n i'
                · go_wp2
                  go_roundw
                  case rel => exact ⟨j + 1, by omega, by go_num, hQ⟩
                  case measure => simp [intOf]; omega
                · obtain rfl : j = n i' := by omega
                  go_wp2
                  go_loopw [7] (fun gv wr => ∃ (t : Nat), 1 ≤ t ∧ t ≤ 18 ∧ gv = .int .i64 t ∧ Q wr M) (fun gv _ => 18 - (intOf gv).toNat)
                  case atStart => exact ⟨1, by omega, by omega, rfl, hQ⟩
                  case round =>
                    clear hQ c0 c1
                    obtain ⟨t, ht1, ht2, rfl, hQ⟩ := hrel
                    have c0 := X0.out _ _ hQ
                    have c1 := HC.out _ _ hQ
                    by_cases ht : t ≤ 17
                    · obtain ⟨g, cap, w', hr, hce, hfr, hQ'⟩ := HG.out (t + t / 17 * 80) (by omega) (by omega) _ _ hQ
                      have HR : Hid (∀ ty, (Builtin.append_ #[44, 3] ty #[.slice al (n i') cl, .int .i64 ((t : Int) + (t : Int) / 17 * 80)]).run Try.prog wr = .ok (.slice (some ⟨g, 0, none⟩) (n i' + (t + t / 17 * 80)) cap) w') := hr
                      clear hr
                      go_wp2_with (first | (at_builtin; refine wpList_append_run2 rfl _ _ _ _ rfl _ _ rfl rfl _ _ (HR.out _) ?_))
                      go_roundw
                      case rel => exact ⟨t + 1, by omega, by omega, by go_num, hQ'⟩
                      case measure => simp [intOf]; omega
                    · obtain rfl : t = 18 := by omega
                      go_wp2
                      go_roundw
                      case rel => exact ⟨i' + 1, by omega, by go_num, hQ⟩
                      case measure => simp [intOf]; omega
            · obtain rfl : i' = k := by omega
              go_wp2
              go_roundw
              case rel => exact ⟨2, M, by omega, rfl, hQ, fun _ => HMk.out⟩
              case measure => simp [intOf]
        · go_wp2
          have HMk : Hid (Mk n M k 0) := hM (by omega)
          clear hM
          go_loopw [5] (fun i wr => ∃ (i' : Nat), i' ≤ k ∧ i = .int .i64 i' ∧ Q wr M) (fun i _ => k - (intOf i).toNat)
          case atStart => exact ⟨0, by omega, rfl, hQ⟩
          case round =>
            clear hQ
            obtain ⟨i', hi', rfl, hQ⟩ := hrel
            have c0 := X0.out _ _ hQ
            by_cases hin : i' < k
            · obtain ⟨hn, gL, al, cl, rfl, hc, hm, hg⟩ := X.out i' hin
              have HM : Hid _ := hm
              have HC : Hid _ := hc
              have HG : Hid _ := hg
              clear hm hc hg
              go_wp2
              go_loopw [6] (fun jv wr => ∃ (j : Nat), j ≤ n i' ∧ jv = .int .i64 j ∧ Q wr M) (fun jv _ => n i' - (intOf jv).toNat)
              case atStart => exact ⟨0, by omega, rfl, hQ⟩
              case round =>
                clear hQ c0
                obtain ⟨j, hj, rfl, hQ⟩ := hrel
                have c0 := X0.out _ _ hQ
                have c1 := HC.out _ _ hQ
                by_cases hjn : j < n i'
                · obtain ⟨gi, rfl, hmm⟩ := HM.out j hjn
                  obtain ⟨hl, hcell, hfr, -⟩ := hmm _ _ hQ
                  rw [HMk.out.1 i' hin j hjn] at hcell
                  clear hmm
                  go_wp2
                  go_roundw
                  case rel => exact ⟨j + 1, by omega, by go_num, hQ⟩
                  case measure => simp [intOf]; omega
                · obtain rfl : j = n i' := by omega
                  go_wp2
                  refine wp_loop_rounds 1 ?_
                  rw [rounds_succ]
                  go_wp2
                  go_roundw
                  case rel => exact ⟨i' + 1, by omega, by go_num, hQ⟩
                  case measure => simp [intOf]; omega
            · obtain rfl : i' = k := by omega
              go_wp2
              go_roundw
              case rel => exact ⟨3, M, by omega, rfl, hQ, fun _ => HMk.out⟩
              case measure => simp [intOf]
        · go_wp2
          go_ret
          exact ⟨rfl, QK.out _ _ hQ⟩
end Go.Proofs.Ytakdnodgcdddeaa
