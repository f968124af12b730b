/- The laws' book of lists: lists of lists that are looked at. -/
import Derived.Test.YtedghjededicpaaBK1
import Derived.Test.YtedghjededicpaaTD
import Derived.Test.YtedghjededicpaaGSx
namespace Go.Proofs.Ytedghjededicpaa
open Go.ChangeShapes Go.WideShapes Go.ChangeAt Go.RowKit
set_option linter.unusedVariables false
set_option linter.unusedSimpArgs false

/-- how a list of lists is read -/
def Rll (u : World) (v : Value) (n : Nat) (a : Nat → Option Addr) (c : Nat → Nat) (L : Nat → List Int) : Prop :=
  n = 0 ∧ v = .slice none 0 0 ∨ ∃ g cap, v = .slice (some ⟨g, 0, none⟩) n cap ∧ ∀ j, j < n → u.cell? ⟨g, j, none⟩ = some (.slice (a j) (L j).length (c j)) ∧ Sl u (.slice (a j) (L j).length (c j)) (L j)
theorem Sl.kept' {u u' : World} {v : Value} {L : List Int} (h : Sl u v L) (k : Kept u u') : Sl u' v L := by
  obtain ⟨ao, c, e, h1, h2, f⟩ := h
  refine ⟨ao, c, e, h1, h2, fun hn => ?_⟩
  obtain ⟨b, o, e2, hb, hr⟩ := f hn
  exact ⟨b, o, e2, Nat.lt_of_lt_of_le hb k.below.size, fun i hi => (k.below.cell (p := ⟨b, o + i, none⟩) hb).trans (hr i hi)⟩
theorem Rll.kept {u u' : World} {v : Value} {n : Nat} {a : Nat → Option Addr} {c : Nat → Nat} {L : Nat → List Int} (h : Rll u v n a c L) (k : Kept u u') : Rll u' v n a c L := by
  rcases h with h | ⟨g, cap, e, h⟩
  · exact .inl h
  · exact .inr ⟨g, cap, e, fun j hj => ⟨(k.below.cell (p := ⟨g, j, none⟩) (World.block_lt_of_cell? _ _ (h j hj).1)).trans (h j hj).1, (h j hj).2.kept' k⟩⟩
set_option maxHeartbeats 4000000 in
set_option maxRecDepth 100000 in
theorem markedInts_any (v : Value) (n : Nat) (hn : n ≤ 900) (a : Nat → Option Addr) (c : Nat → Nat) (L : Nat → List Int) (hL : ∀ j, j < n → L j = mkl (j : Int) 0 (L j).length ∧ (L j).length ≤ 1000000) (w : World) (hR : Rll w v n a c L) : Calls Try.prog 42 #[v] w fun e w' => e = .returned (.bool true) ∧ Kept w w' := by
  rcases hR with ⟨rfl, rfl⟩ | ⟨g, cap, rfl, hR⟩
  · go_enter Try.func42, Try.ntmps42
    go_wp2_with fail
    refine wp_loop_rounds 1 ?_
    rw [rounds_succ]
    go_wp2_with fail
    go_ret
    exact ⟨rfl, Kept.refl w⟩
  · have HR := (show Hid (∀ j, j < n → w.cell? ⟨g, j, none⟩ = some (.slice (a j) (L j).length (c j)) ∧ Sl w (.slice (a j) (L j).length (c j)) (L j)) from hR)
    have HL := (show Hid (∀ j, j < n → L j = mkl (j : Int) 0 (L j).length ∧ (L j).length ≤ 1000000) from hL)
    clear hR hL
    go_enter Try.func42, Try.ntmps42
    go_wp2_with fail
    go_loopw [3] (fun iv wr => ∃ i : Nat, i ≤ n ∧ iv = .int .i64 (i : Int) ∧ Kept w wr) (fun iv _ => n - (intOf iv).toNat)
    case atStart => exact ⟨0, Nat.zero_le _, rfl, Kept.refl w⟩
    case round =>
      obtain ⟨i, hi, rfl, kr⟩ := hrel
      by_cases hin : i < n
      · obtain ⟨h1, h2⟩ := HR.out i hin
        obtain ⟨h3, h4⟩ := HL.out i hin
        have q0 := (kr.below.cell (p := ⟨g, i, none⟩) (World.block_lt_of_cell? _ _ h1)).trans h1
        have s0 := h2.kept' kr
        obtain ⟨m, hm⟩ : ∃ m, m = (L i).length := ⟨_, rfl⟩
        rw [← hm] at q0 s0 h3 h4
        rw [h3] at s0
        have s1 : Hid (∀ u, Kept wr u → Sl u (.slice (a i) m (c i)) (mkl (i : Int) 0 m)) := fun u q => s0.kept' q
        have KM : Hid (∀ u, Calls Try.prog 62 #[.int .i64 (i : Int), .int .i64 0, .int .i64 (m : Int)] u fun e w' => ∃ v, e = .returned v ∧ MR u.heap.size w' v (mkl (i : Int) 0 m) ∧ Kept u w') := fun u => markInts_any (i : Int) 0 m (by omega) (by omega) (by omega) u
        have KE : Hid (∀ ao co u, Kept wr u → Sl u (.slice ao m co) (mkl (i : Int) 0 m) → Calls Try.prog 54 #[.slice (a i) m (c i), .slice ao m co] u fun e w' => e = .returned (.bool true) ∧ Kept u w') := fun ao co u k hs => by
          have := sameInts_any (mkl (i : Int) 0 m) (by rw [mkl_len]; omega) (a i) ao (c i) co u (by rw [mkl_len]; exact s1.out u k) (by rw [mkl_len]; exact hs)
          rw [mkl_len] at this
          exact this
        generalize a i = ai at *
        generalize c i = ci at *
        have bl := World.block_lt_of_cell? _ _ q0
        have HS : Hid (∀ u, Kept wr u → Kept wr u ∧ u.cell? ⟨g, i, none⟩ = some (.slice ai m ci)) := fun u q => ⟨q, (q.below.cell (p := ⟨g, i, none⟩) bl).trans q0⟩
        clear bl q0 s0 h1 h2 h3 h4 hm
        go_upto_region 4 with fail
        refine wp_region_late [] (fun u => Kept wr u ∧ u.cell? ⟨g, i, none⟩ = some (.slice ai m ci)) (by kernel_rfl) (HS.out _ (Kept.refl wr).drew) (fun hHeld => ?_)
        refine wpAnyD_take (i := 0) (v := ?_) rfl (by kernel_rfl) (by kernel_rfl) (by kernel_rfl) (by kernel_rfl) (fun _ _ _ h => h) (Or.inl ⟨by rfl, ?hya0⟩) hHeld ?_
        case hya0 => (intro w hSw; (try dsimp only at hSw); go_simp; try (with_reducible rfl))
        (try simp only [Act.put, List.getElem_toArray, List.getElem_cons_succ, List.getElem_cons_zero, List.setIfInBounds_toArray, List.set_cons_zero, List.set_cons_succ])
        refine wpAnyD_take (i := 1) (v := ?_) rfl (by kernel_rfl) (by kernel_rfl) (by kernel_rfl) (by kernel_rfl) (fun _ _ _ h => h) (Or.inl ⟨by rfl, ?hya1⟩) hHeld ?_
        case hya1 => (intro w hSw; (try dsimp only at hSw); go_simp; try (with_reducible rfl))
        (try simp only [Act.put, List.getElem_toArray, List.getElem_cons_succ, List.getElem_cons_zero, List.setIfInBounds_toArray, List.set_cons_zero, List.set_cons_succ])
        refine wpAnyD_take (i := 2) (v := ?_) rfl (by kernel_rfl) (by kernel_rfl) (by kernel_rfl) (by kernel_rfl) (fun _ _ _ h => h) (Or.inl ⟨by rfl, ?hya2⟩) hHeld ?_
        case hya2 => (intro w hSw; (try dsimp only at hSw); go_simp; try (with_reducible rfl))
        (try simp only [Act.put, List.getElem_toArray, List.getElem_cons_succ, List.getElem_cons_zero, List.setIfInBounds_toArray, List.set_cons_zero, List.set_cons_succ])
        refine wpAnyD_take (i := 3) (v := ?_) rfl (by kernel_rfl) (by kernel_rfl) (by kernel_rfl) (by kernel_rfl) (fun _ _ _ h => h) (Or.inl ⟨by rfl, ?hya3⟩) hHeld ?_
        case hya3 => (intro w hSw; (try dsimp only at hSw); go_simp; try (with_reducible rfl))
        (try simp only [Act.put, List.getElem_toArray, List.getElem_cons_succ, List.getElem_cons_zero, List.setIfInBounds_toArray, List.set_cons_zero, List.set_cons_succ])
        refine wpAnyD_take (i := 4) (v := ?_) rfl (by kernel_rfl) (by kernel_rfl) (by kernel_rfl) (by kernel_rfl) (fun _ _ _ h => h) (Or.inl ⟨by rfl, ?hya4⟩) hHeld ?_
        case hya4 => (intro w hSw; (try dsimp only at hSw); go_simp; try (with_reducible rfl))
        (try simp only [Act.put, List.getElem_toArray, List.getElem_cons_succ, List.getElem_cons_zero, List.setIfInBounds_toArray, List.set_cons_zero, List.set_cons_succ])
        refine wpAnyD_take (i := 5) (v := ?_) rfl (by kernel_rfl) (by kernel_rfl) (by kernel_rfl) (by kernel_rfl) (fun _ _ _ h => h) (Or.inl ⟨by rfl, ?hya5⟩) hHeld ?_
        case hya5 => (intro w hSw; (try dsimp only at hSw); go_simp; try (with_reducible rfl))
        (try simp only [Act.put, List.getElem_toArray, List.getElem_cons_succ, List.getElem_cons_zero, List.setIfInBounds_toArray, List.set_cons_zero, List.set_cons_succ])
        refine wpAnyD_take (i := 6) (v := ?_) rfl (by kernel_rfl) (by kernel_rfl) (by kernel_rfl) (by kernel_rfl) (fun _ _ _ h => h) (Or.inl ⟨by rfl, ?hya6⟩) hHeld ?_
        case hya6 => (intro w hSw; (try dsimp only at hSw); go_simp; try (with_reducible rfl))
        (try simp only [Act.put, List.getElem_toArray, List.getElem_cons_succ, List.getElem_cons_zero, List.setIfInBounds_toArray, List.set_cons_zero, List.set_cons_succ])
        refine wpAnyD_take (i := 7) (v := ?_) rfl (by kernel_rfl) (by kernel_rfl) (by kernel_rfl) (by kernel_rfl) (fun _ _ _ h => h) (Or.inl ⟨by rfl, ?hya7⟩) hHeld ?_
        case hya7 => (intro w hSw; (try dsimp only at hSw); go_simp; try (with_reducible rfl))
        (try simp only [Act.put, List.getElem_toArray, List.getElem_cons_succ, List.getElem_cons_zero, List.setIfInBounds_toArray, List.set_cons_zero, List.set_cons_succ])
        refine wpAnyD_take (i := 8) (v := ?_) rfl (by kernel_rfl) (by kernel_rfl) (by kernel_rfl) (by kernel_rfl) (fun _ _ _ h => h) (Or.inl ⟨by rfl, ?hya8⟩) hHeld ?_
        case hya8 => (intro w hSw; (try dsimp only at hSw); go_simp; try (with_reducible rfl))
        (try simp only [Act.put, List.getElem_toArray, List.getElem_cons_succ, List.getElem_cons_zero, List.setIfInBounds_toArray, List.set_cons_zero, List.set_cons_succ])
        refine wpAnyD_take (i := 9) (v := ?_) rfl (by kernel_rfl) (by kernel_rfl) (by kernel_rfl) (by kernel_rfl) (fun _ _ _ h => h) (Or.inl ⟨by rfl, ?hya9⟩) hHeld ?_
        case hya9 => (intro w hSw; (try dsimp only at hSw); go_simp; try (with_reducible rfl))
        (try simp only [Act.put, List.getElem_toArray, List.getElem_cons_succ, List.getElem_cons_zero, List.setIfInBounds_toArray, List.set_cons_zero, List.set_cons_succ])
        refine wpAnyD_step (i := 10) (by kernel_rfl) rfl (fun K hK9 => ?_)
        go_simp
        go_wp2_with fail
        refine (KM.out _).mono ?_
        rintro e u1 ⟨vm, rfl, hM, k1⟩
        refine hK9.out _ _ (HS.out _ (hHeld.1.trans k1)) (fun hH1 => ?_)
        clear hK9 K
        obtain ⟨ao, co, rfl, -, hs⟩ := hM.sl
        rw [mkl_len] at hs
        rw [mkl_len]
        (try simp only [Act.put, List.getElem_toArray, List.getElem_cons_succ, List.getElem_cons_zero, List.setIfInBounds_toArray, List.set_cons_zero, List.set_cons_succ])
        refine wpAnyD_step (i := 11) (by kernel_rfl) rfl (fun K hK9 => ?_)
        go_simp
        go_wp2_with fail
        refine (KE.out _ _ _ hH1.1 hs).mono ?_
        rintro e u2 ⟨rfl, k2⟩
        refine hK9.out _ _ (HS.out _ (hH1.1.trans k2)) (fun hH2 => ?_)
        clear hK9 K
        (try simp only [Act.put, List.getElem_toArray, List.getElem_cons_succ, List.getElem_cons_zero, List.setIfInBounds_toArray, List.set_cons_zero, List.set_cons_succ])
        refine wpAnyD_take (i := 12) (v := ?_) rfl (by kernel_rfl) (by kernel_rfl) (by kernel_rfl) (by kernel_rfl) (fun _ _ _ h => h) (Or.inl ⟨by rfl, ?hyb12⟩) hH2 ?_
        case hyb12 => (intro w hSw; (try dsimp only at hSw); go_simp; try (with_reducible rfl))
        (try simp only [Act.put, List.getElem_toArray, List.getElem_cons_succ, List.getElem_cons_zero, List.setIfInBounds_toArray, List.set_cons_zero, List.set_cons_succ])
        refine wpAnyD_done (by kernel_rfl) ?_ _
        (try simp only [Act.put, List.getElem_toArray, List.getElem_cons_succ, List.getElem_cons_zero, List.setIfInBounds_toArray, List.set_cons_zero, List.set_cons_succ])
        have kk := kr.trans hH2.1
        clear hHeld hH1 hH2 HS KM KE s1 hs hM k1 k2
        go_wp2_with fail
        go_roundw
        case rel => exact ⟨i + 1, by omega, by go_num, kk⟩
        case measure => simp [intOf]; omega
      · obtain rfl : i = n := by omega
        go_wp2_with fail
        go_ret
        exact ⟨rfl, kr⟩
end Go.Proofs.Ytedghjededicpaa
