/- The rows of a set gone over: rowsOf and its function. -/
import Derived.Test.YtcjgdfnbjbboeaaWr26
import Derived.Test.YtcjgdfnbjbboeaaWr29
import Derived.Test.YtcjgdfnbjbboeaaWr30
namespace Go.Proofs.Ytcjgdfnbjbboeaa
open Go.ChangeShapes Go.WideShapes Go.ChangeAt Go.RowKit Go.Shelf
set_option linter.unusedVariables false
set_option linter.unusedSimpArgs false
attribute [local go_sem] Oper.semAt_some

section
variable {F : Fence} {n : Nat} {P : Program} {ops : Array Oper} {Q : Exit → Act → World → Prop} {md : Region.Mode} {S : World → Prop} {D : List Nat}
/-- One operation alone may come up; it keeps S. -/
theorem wpAnyF_sole {i : Nat} {o : Oper} {fuel : Nat} {listed : Array Bool} {a : Act} {w : World} (hr : Region.ready md ops listed = [i]) (ho : ops[i]? = some o)
    (h : ∀ K' : Act → World → Prop, Shut (∀ a w, S w → wpAnyF F n P md ops Q S D fuel (listed.setIfInBounds i true) a w → K' a w) → if Region.wanted o (yielded ops a.tmps) = true then Oper.wpIn F n P o a w K' Q else (∀ f, o.about P w a.eval = some f → F.fn f) ∧ K' (a.put o.dst undef) w) :
    wpAnyF F n P md ops Q S D (fuel + 1) listed a w := by
  refine ⟨fun h0 => (by rw [hr] at h0; cases h0), fun j hj => ?_⟩
  rw [hr] at hj
  obtain rfl := List.mem_singleton.1 hj
  exact wpOpIn_step ho (fun K' hK => h K' (fun a w hs hW => hK a w ⟨fun _ => hs, hW⟩))
end

/-- A set of one row, as it is handed to the loop. -/
abbrev rowS (b off C : Nat) (b' off' C' : Nat) (n : Int) (x : Nat) : Array Value := #[.int .i64 (x : Int), sv8 1 C n (.slice (some ⟨b, off + x * C, none⟩) C C) 1 C' n (.slice (some ⟨b', off' + x * C', none⟩) C' C')]

set_option maxRecDepth 100000 in
set_option maxHeartbeats 4000000 in
theorem drows_stops (n : Nat) (hn : 1 ≤ n) (B R C C' : Nat) (wd : Int) (b off cap b' off' cap' : Nat) (hC : 0 < C) (hRC : R * C ≤ 100000) (hcap : R * C ≤ cap) (hC' : 0 < C') (hRC' : R * C' ≤ 100000) (hcap' : R * C' ≤ cap') (w : World) (hM : Bq w B (sl8 R C wd (.slice (some ⟨b, off, none⟩) (R * C) cap) R C' wd (.slice (some ⟨b', off', none⟩) (R * C') cap'))) :
    SeqStopsK Fence.wide n Try.prog 97 #[.pointer (some ⟨B, 0, none⟩)] (fun x : Fin R => rowS b off C b' off' C' wd x.1) (fun W W' => W'.heap[B]? = W.heap[B]?) (fun ys => ys = List.finRange R) (fun pre => ∃ k hk, pre = uptoF R (k + 1) hk) R w := fun l J Jx W hW hJ hJx hY h0 => by
  have HM : Hid (∀ u : World, u.heap[B]? = W.heap[B]? → ∀ i v, (sl8 R C wd (.slice (some ⟨b, off, none⟩) (R * C) cap) R C' wd (.slice (some ⟨b', off', none⟩) (R * C') cap'))[i]? = some v → u.cell? ⟨B, i, none⟩ = some v) := fun u hu i v hv => (World.cell?_of_block (w := W) (a := ⟨B, i, none⟩) hu).trans ((hW.cell hM.lt).trans (hM.c i v hv))
  have hBW : B < W.heap.size := Nat.lt_of_lt_of_le hM.lt hW.size
  have KR : Hid (∀ (k : Nat) (u : World), k < R → Calls Try.prog 73 #[.agg #[.int .i64 R, .int .i64 C, .int .i64 wd, .slice (some ⟨b, off, none⟩) (R * C) cap], .int .i64 k] u fun e w' => e = .returned (.agg #[.int .i64 1, .int .i64 C, .int .i64 wd, .slice (some ⟨b, off + k * C, none⟩) C C]) ∧ Kept u w') := fun k u hk => drowOf_any R C k wd hk hC hRC b off _ cap rfl hcap u
  have KR' : Hid (∀ (k : Nat) (u : World), k < R → Calls Try.prog 73 #[.agg #[.int .i64 R, .int .i64 C', .int .i64 wd, .slice (some ⟨b', off', none⟩) (R * C') cap'], .int .i64 k] u fun e w' => e = .returned (.agg #[.int .i64 1, .int .i64 C', .int .i64 wd, .slice (some ⟨b', off' + k * C', none⟩) C' C']) ∧ Kept u w') := fun k u hk => drowOf_any R C' k wd hk hC' hRC' b' off' _ cap' rfl hcap' u
  have hR : R ≤ 100000 := Nat.le_trans (Nat.le_mul_of_pos_right R hC) hRC
  clear hM hRC hcap hRC' hcap'
  generalize R * C = rc at *
  generalize R * C' = rc' at *
  have m0 := HM.out W rfl 0 _ rfl
  refine callsIn_of_wp Try.func97 rfl trivial ?_ rfl
  simp only [Try.ntmps97, List.size_toArray, List.length_cons, List.length_nil, Nat.reduceAdd, Nat.reduceSub, Array.replicate_succ, Array.replicate_zero, List.push_toArray, List.append_toArray, List.nil_append, List.cons_append]
  gi_wp2
  gi_loopw [7] (fun iv wr => ∃ (k : Nat) (hk : k ≤ R), iv = .int .i64 k ∧ J (uptoF R k hk) wr ∧ wr.heap[B]? = W.heap[B]?) (fun iv _ => R - (intOf iv).toNat)
  case atStart => exact ⟨0, Nat.zero_le _, rfl, h0, rfl⟩
  case round =>
    obtain ⟨k, hk, rfl, hJs, hbk⟩ := hrel
    by_cases hlt : k < R
    · clear m0
      have KY : Hid (∀ w' : World, J (uptoF R k hk) w' → w'.heap[B]? = W.heap[B]? → YieldAt Fence.wide (n - 1) Try.prog l (rowS b off C b' off' C' wd k) w' fun e W' => (e = .returned (.bool true) ∧ J (uptoF R (k + 1) hlt) W' ∧ W'.heap[B]? = W.heap[B]?) ∨ (e = .returned (.bool false) ∧ W'.heap[B]? = W'.heap[B]? ∧ Jx (uptoF R (k + 1) hlt) W')) := fun w' hJ' hb' => by
        refine (hY _ ⟨k, hlt⟩ w' hJ' (by rw [uptoF_length]; exact hlt)).mono ?_
        rintro e W' (⟨rfl, hj, hkp⟩ | ⟨rfl, hj⟩)
        · exact .inl ⟨rfl, by rw [uptoF_succ]; exact hj, hkp.trans hb'⟩
        · exact .inr ⟨rfl, rfl, by rw [uptoF_succ]; exact hj⟩
      have HJ : Hid (∀ u : World, Kept wr u → J (uptoF R k hk) u ∧ u.heap[B]? = W.heap[B]?) := fun u ku => ⟨hJ _ _ _ none hJs ku.grownNone (fun r e => by cases e), (ku.below.block B (by
        have := (Array.getElem?_eq_some_iff.1 (hbk.trans (Array.getElem?_eq_getElem hBW))).1
        exact this)).trans hbk⟩
      have HSx : Hid (∀ u : World, u.heap[B]? = W.heap[B]? → True ∧ u.cell? ⟨B, 0, none⟩ = some (.int .i64 R) ∧ u.cell? ⟨B, 1, none⟩ = some (.int .i64 C) ∧ u.cell? ⟨B, 2, none⟩ = some (.int .i64 wd) ∧ u.cell? ⟨B, 3, none⟩ = some (.slice (some ⟨b, off, none⟩) rc cap) ∧ u.cell? ⟨B, 4, none⟩ = some (.int .i64 R) ∧ u.cell? ⟨B, 5, none⟩ = some (.int .i64 C') ∧ u.cell? ⟨B, 6, none⟩ = some (.int .i64 wd) ∧ u.cell? ⟨B, 7, none⟩ = some (.slice (some ⟨b', off', none⟩) rc' cap')) := fun u hu => ⟨trivial, HM.out u hu 0 _ rfl, HM.out u hu 1 _ rfl, HM.out u hu 2 _ rfl, HM.out u hu 3 _ rfl, HM.out u hu 4 _ rfl, HM.out u hu 5 _ rfl, HM.out u hu 6 _ rfl, HM.out u hu 7 _ rfl⟩
      have hS0 : wr.drew.heap[B]? = W.heap[B]? := hbk
      have kd := (Kept.refl wr).drew
      have z1 : IntKind.i64.wrap ((k : Int) + 1) = (k : Int) + 1 := by rw [wrap_i64]; omega
      have b4 : (k : Int) < (R : Int) := by omega
      clear hY hJ hJx h0 hJs hW
      gi_wp2
      refine wpIn_region_late [11, 12] (fun u => True ∧ u.cell? ⟨B, 0, none⟩ = some (.int .i64 R) ∧ u.cell? ⟨B, 1, none⟩ = some (.int .i64 C) ∧ u.cell? ⟨B, 2, none⟩ = some (.int .i64 wd) ∧ u.cell? ⟨B, 3, none⟩ = some (.slice (some ⟨b, off, none⟩) rc cap) ∧ u.cell? ⟨B, 4, none⟩ = some (.int .i64 R) ∧ u.cell? ⟨B, 5, none⟩ = some (.int .i64 C') ∧ u.cell? ⟨B, 6, none⟩ = some (.int .i64 wd) ∧ u.cell? ⟨B, 7, none⟩ = some (.slice (some ⟨b', off', none⟩) rc' cap')) (by kernel_rfl) (HSx.out _ hS0) (fun hHeld => ?_)
      refine wpAnyF_take (i := 0) (v := ?_) (by kernel_rfl) rfl (by kernel_rfl) (by kernel_rfl) (by kernel_rfl) (by kernel_rfl) (fun _ _ _ h => h) (fun _ => rfl) (Or.inl ⟨by rfl, ?hy0⟩) hHeld ?_
      case hy0 => (intro w hSw; (try dsimp only at hSw); go_simp; try (with_reducible rfl))
      (try simp only [Act.put, List.getElem_toArray, List.getElem_cons_succ, List.getElem_cons_zero, List.setIfInBounds_toArray, List.set_cons_zero, List.set_cons_succ])
      refine wpAnyF_take (i := 1) (v := ?_) (by kernel_rfl) rfl (by kernel_rfl) (by kernel_rfl) (by kernel_rfl) (by kernel_rfl) (fun _ _ _ h => h) (fun _ => rfl) (Or.inl ⟨by rfl, ?hy1⟩) hHeld ?_
      case hy1 => (intro w hSw; (try dsimp only at hSw); go_simp; try (with_reducible rfl))
      (try simp only [Act.put, List.getElem_toArray, List.getElem_cons_succ, List.getElem_cons_zero, List.setIfInBounds_toArray, List.set_cons_zero, List.set_cons_succ])
      refine wpAnyF_take (i := 2) (v := ?_) (by kernel_rfl) rfl (by kernel_rfl) (by kernel_rfl) (by kernel_rfl) (by kernel_rfl) (fun _ _ _ h => h) (fun _ => rfl) (Or.inl ⟨by rfl, ?hy2⟩) hHeld ?_
      case hy2 => (intro w hSw; (try dsimp only at hSw); go_simp; try (with_reducible rfl))
      (try simp only [Act.put, List.getElem_toArray, List.getElem_cons_succ, List.getElem_cons_zero, List.setIfInBounds_toArray, List.set_cons_zero, List.set_cons_succ])
      refine wpAnyF_take (i := 3) (v := ?_) (by kernel_rfl) rfl (by kernel_rfl) (by kernel_rfl) (by kernel_rfl) (by kernel_rfl) (fun _ _ _ h => h) (fun _ => rfl) (Or.inl ⟨by rfl, ?hy3⟩) hHeld ?_
      case hy3 => (intro w hSw; (try dsimp only at hSw); go_simp; try (with_reducible rfl))
      (try simp only [Act.put, List.getElem_toArray, List.getElem_cons_succ, List.getElem_cons_zero, List.setIfInBounds_toArray, List.set_cons_zero, List.set_cons_succ])
      refine wpAnyF_take (i := 4) (v := ?_) (by kernel_rfl) rfl (by kernel_rfl) (by kernel_rfl) (by kernel_rfl) (by kernel_rfl) (fun _ _ _ h => h) (fun _ => rfl) (Or.inl ⟨by rfl, ?hy4⟩) hHeld ?_
      case hy4 => (intro w hSw; (try dsimp only at hSw); go_simp; try (with_reducible rfl))
      (try simp only [Act.put, List.getElem_toArray, List.getElem_cons_succ, List.getElem_cons_zero, List.setIfInBounds_toArray, List.set_cons_zero, List.set_cons_succ])
      refine wpAnyF_take (i := 6) (v := ?_) (by kernel_rfl) rfl (by kernel_rfl) (by kernel_rfl) (by kernel_rfl) (by kernel_rfl) (fun _ _ _ h => h) (fun _ => rfl) (Or.inl ⟨by rfl, ?hy6⟩) hHeld ?_
      case hy6 => (intro w hSw; (try dsimp only at hSw); go_simp; try (with_reducible rfl))
      (try simp only [Act.put, List.getElem_toArray, List.getElem_cons_succ, List.getElem_cons_zero, List.setIfInBounds_toArray, List.set_cons_zero, List.set_cons_succ])
      refine wpAnyF_take (i := 7) (v := ?_) (by kernel_rfl) rfl (by kernel_rfl) (by kernel_rfl) (by kernel_rfl) (by kernel_rfl) (fun _ _ _ h => h) (fun _ => rfl) (Or.inl ⟨by rfl, ?hy7⟩) hHeld ?_
      case hy7 => (intro w hSw; (try dsimp only at hSw); go_simp; try (with_reducible rfl))
      (try simp only [Act.put, List.getElem_toArray, List.getElem_cons_succ, List.getElem_cons_zero, List.setIfInBounds_toArray, List.set_cons_zero, List.set_cons_succ])
      refine wpAnyF_take (i := 8) (v := ?_) (by kernel_rfl) rfl (by kernel_rfl) (by kernel_rfl) (by kernel_rfl) (by kernel_rfl) (fun _ _ _ h => h) (fun _ => rfl) (Or.inl ⟨by rfl, ?hy8⟩) hHeld ?_
      case hy8 => (intro w hSw; (try dsimp only at hSw); go_simp; try (with_reducible rfl))
      (try simp only [Act.put, List.getElem_toArray, List.getElem_cons_succ, List.getElem_cons_zero, List.setIfInBounds_toArray, List.set_cons_zero, List.set_cons_succ])
      refine wpAnyF_sole (i := 5) (by kernel_rfl) rfl (fun K hK9 => ?_)
      (rw [if_pos (by rfl)])
      gi_wp2_with (first | (refine ⟨trivial, ?_⟩; gi_at_call 73; refine (callsIn_wide.2 (KR.out k _ hlt)).mono ?_; rintro e w4 ⟨rfl, k4⟩))
      have kd4 := kd.trans k4
      refine hK9.out _ _ (HSx.out _ (HJ.out _ kd4).2) ?_
      clear hK9 K
      (try simp only [Act.put, List.getElem_toArray, List.getElem_cons_succ, List.getElem_cons_zero, List.setIfInBounds_toArray, List.set_cons_zero, List.set_cons_succ])
      refine wpAnyF_sole (i := 9) (by kernel_rfl) rfl (fun K hK9 => ?_)
      (rw [if_pos (by rfl)])
      gi_wp2_with (first | (refine ⟨trivial, ?_⟩; gi_at_call 73; refine (callsIn_wide.2 (KR'.out k _ hlt)).mono ?_; rintro e w5 ⟨rfl, k5⟩))
      have kd5 := kd4.trans k5
      refine hK9.out _ _ (HSx.out _ (HJ.out _ kd5).2) ?_
      clear hK9 K
      (try simp only [Act.put, List.getElem_toArray, List.getElem_cons_succ, List.getElem_cons_zero, List.setIfInBounds_toArray, List.set_cons_zero, List.set_cons_succ])
      have hHeld := HSx.out _ (HJ.out _ kd5).2
      refine wpAnyF_take (i := 10) (v := ?_) (by kernel_rfl) rfl (by kernel_rfl) (by kernel_rfl) (by kernel_rfl) (by kernel_rfl) (fun _ _ _ h => h) (fun _ => rfl) (Or.inl ⟨by rfl, ?hy10⟩) hHeld ?_
      case hy10 => (intro w hSw; (try dsimp only at hSw); go_simp; try (with_reducible rfl))
      (try simp only [Act.put, List.getElem_toArray, List.getElem_cons_succ, List.getElem_cons_zero, List.setIfInBounds_toArray, List.set_cons_zero, List.set_cons_succ])
      have hY1 := KY.out _ (HJ.out _ kd5).1 (HJ.out _ kd5).2
      obtain ⟨fn, tmps, assign, body, hy, hR⟩ := hY1
      refine wpAnyF_late (i := 11) (by kernel_rfl) rfl (by kernel_rfl) (fun K hK9 => ?_)
      (rw [if_pos (by rfl)])
      gi_wp2
      refine hR.mono ?_
      rintro e W3 (⟨rfl, hj3, hb3⟩ | ⟨rfl, -, hjx3⟩)
      · refine hK9.out _ _ ?_
        clear hK9 K
        (try simp only [Act.put, List.getElem_toArray, List.getElem_cons_succ, List.getElem_cons_zero, List.setIfInBounds_toArray, List.set_cons_zero, List.set_cons_succ])
        refine wpAnyF_late (i := 12) (by kernel_rfl) rfl (by kernel_rfl) (fun K hK9 => ?_)
        (rw [if_pos (by rfl)])
        gi_wp2
        refine hK9.out _ _ ?_
        clear hK9 K
        (try simp only [Act.put, List.getElem_toArray, List.getElem_cons_succ, List.getElem_cons_zero, List.setIfInBounds_toArray, List.set_cons_zero, List.set_cons_succ])
        refine wpAnyF_done (by kernel_rfl) ?_ _
        (try simp only [Act.put, List.getElem_toArray, List.getElem_cons_succ, List.getElem_cons_zero, List.setIfInBounds_toArray, List.set_cons_zero, List.set_cons_succ])
        gi_wp2_with fail
        go_roundw
        case rel => exact ⟨k + 1, hlt, by go_num, hj3, hb3⟩
        case measure => simp [intOf]; omega
      · refine hK9.out _ _ ?_
        clear hK9 K
        (try simp only [Act.put, List.getElem_toArray, List.getElem_cons_succ, List.getElem_cons_zero, List.setIfInBounds_toArray, List.set_cons_zero, List.set_cons_succ])
        refine wpAnyF_late (i := 12) (by kernel_rfl) rfl (by kernel_rfl) (fun K hK9 => ?_)
        (rw [if_pos (by rfl)])
        gi_wp2
        refine hK9.out _ _ ?_
        clear hK9 K
        (try simp only [Act.put, List.getElem_toArray, List.getElem_cons_succ, List.getElem_cons_zero, List.setIfInBounds_toArray, List.set_cons_zero, List.set_cons_succ])
        refine wpAnyF_done (by kernel_rfl) ?_ _
        (try simp only [Act.put, List.getElem_toArray, List.getElem_cons_succ, List.getElem_cons_zero, List.setIfInBounds_toArray, List.set_cons_zero, List.set_cons_succ])
        gi_wp2
        refine bodyPost_ret (results_none rfl _ _ _) rfl ?_
        exact ⟨⟨_, rfl⟩, .inr ⟨_, ⟨k, hlt, rfl⟩, hjx3⟩⟩
    · obtain rfl : k = R := by omega
      gi_wp2
      go_end0
      exact ⟨⟨_, rfl⟩, .inl ⟨_, uptoF_all _, hJs⟩⟩

set_option maxHeartbeats 400000 in
theorem drowsOf_any (r c n : Int) (s : Value) (r' c' n' : Int) (s' : Value) (w : World) : Calls Try.prog 71 #[sv8 r c n s r' c' n' s'] w fun e w' => e = .returned (.func (.func 97) #[] #[.pointer (some ⟨w.heap.size, 0, none⟩)]) ∧ w' = w.alloc (.cells #[.int .i64 r, .int .i64 c, .int .i64 n, s, .int .i64 r', .int .i64 c', .int .i64 n', s'] 26) := by
  go_enter Try.func71, Try.ntmps71
  go_wp2
  go_ret
  exact ⟨rfl, rfl⟩
end Go.Proofs.Ytcjgdfnbjbboeaa
