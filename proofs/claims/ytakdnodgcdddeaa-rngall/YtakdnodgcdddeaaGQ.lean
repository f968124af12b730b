/- RngAll. -/
import Derived.Test.YtakdnodgcdddeaaGP2
import Derived.Test.YtakdnodgcdddeaaGW
import Derived.Test.YtakdnodgcdddeaaG10
import Derived.Test.YtakdnodgcdddeaaLiftA
namespace Go.Proofs.Ytakdnodgcdddeaa
open Go.ChangeShapes Go.WideShapes Go.ChangeAt Go.RowKit
set_option linter.unusedVariables false
set_option linter.unusedSimpArgs false

theorem orders_all (w0 w : World) (kb : Nat) (vL vW : Value) (E : List Ent) (hK : KeepAt w0 w kb vL vW E) (hE : E.length + 2 ≤ 300) (s t a n m : Int) : Calls Try.prog 12 #[.pointer (some ⟨kb, 0, none⟩), .agg #[.int .i64 s, .int .i64 t, .int .i64 a], .int .i64 n, .int .i64 m] w fun e w' => e = .returned (.bool true) ∧ ∃ vL' vW' E', KeepAt w0 w' kb vL' vW' E' ∧ E'.length ≤ E.length + 2 ∧ Stay w w' kb vL vW vL' vW' := by
  by_cases h0 : n < 0
  · by_cases hm : m < 0
    · exact orders_neg_a w0 w kb vL vW E hK s t a n m h0 hm
    · exact orders_neg_b w0 w kb vL vW E hK s t a n m h0 hm
  · by_cases h1 : 65536 < n
    · by_cases hm : m < 0
      · exact orders_long_a w0 w kb vL vW E hK s t a n m h1 hm
      · by_cases hm2 : n < m
        · exact orders_long_b w0 w kb vL vW E hK s t a n m h1 hm hm2
        · exact orders_long_c w0 w kb vL vW E hK s t a n m h1 hm hm2
    · obtain ⟨N, rfl⟩ : ∃ N : Nat, n = (N : Int) := ⟨n.toNat, by omega⟩
      by_cases hm : m < 0
      · exact orders_bad_a w0 w kb vL vW E hK hE s t a N m (by omega) hm
      · by_cases hm2 : (N : Int) < m
        · exact orders_bad_b w0 w kb vL vW E hK hE s t a N m (by omega) hm hm2
        · obtain ⟨M, rfl⟩ : ∃ M : Nat, m = (M : Int) := ⟨m.toNat, by omega⟩
          exact orders_ok w0 w kb vL vW E hK hE s t a N M (by omega) (by omega)

theorem keep_new (w0 w : World) (h : Bel w0 w) : KeepAt w0 (w.alloc (.cells #[.slice none 0 0, .slice none 0 0] 29)) w.heap.size (.slice none 0 0) (.slice none 0 0) [] := by
  refine ⟨h.trans ((Kept.refl w).alloc _ _), heap_alloc_new w _, .inl ⟨rfl, rfl⟩, .inl ⟨rfl, rfl⟩, fun x hx => (by cases hx), ?_, fun b hb => ?_⟩
  · simp [blks, blk]
  · have : b = w.heap.size := by simpa [blks, blk] using hb
    rw [this]; exact h.below.size

theorem Ask6.below {w w' : World} {b o : Nat} {z0 z1 z2 z3 z4 z5 : Int} (h : Ask6 w b o z0 z1 z2 z3 z4 z5) (k : Below w.heap.size w w') : Ask6 w' b o z0 z1 z2 z3 z4 z5 := by
  have hb : b < w.heap.size := World.block_lt_of_cell? _ _ h.1
  have e := k.block b hb
  exact ⟨(World.cell?_of_block (a := ⟨b, o, none⟩) e).trans h.1, (World.cell?_of_block (a := ⟨b, o + 1, none⟩) e).trans h.2.1, (World.cell?_of_block (a := ⟨b, o + 2, none⟩) e).trans h.2.2.1, (World.cell?_of_block (a := ⟨b, o + 3, none⟩) e).trans h.2.2.2.1, (World.cell?_of_block (a := ⟨b, o + 4, none⟩) e).trans h.2.2.2.2.1, (World.cell?_of_block (a := ⟨b, o + 5, none⟩) e).trans h.2.2.2.2.2⟩
theorem Ask6.block {w w' : World} {b o : Nat} {z0 z1 z2 z3 z4 z5 : Int} (h : Ask6 w b o z0 z1 z2 z3 z4 z5) (e : w'.heap[b]? = w.heap[b]?) : Ask6 w' b o z0 z1 z2 z3 z4 z5 :=
  ⟨(World.cell?_of_block (a := ⟨b, o, none⟩) e).trans h.1, (World.cell?_of_block (a := ⟨b, o + 1, none⟩) e).trans h.2.1, (World.cell?_of_block (a := ⟨b, o + 2, none⟩) e).trans h.2.2.1, (World.cell?_of_block (a := ⟨b, o + 3, none⟩) e).trans h.2.2.2.1, (World.cell?_of_block (a := ⟨b, o + 4, none⟩) e).trans h.2.2.2.2.1, (World.cell?_of_block (a := ⟨b, o + 5, none⟩) e).trans h.2.2.2.2.2⟩
theorem ask_new (w : World) (z0 z1 z2 z3 z4 z5 : Int) (T : TypeId) : Ask6 (w.alloc (.cells #[.int .i64 z0, .int .i64 z1, .int .i64 z2, .int .i64 z3, .int .i64 z4, .int .i64 z5] T)) w.heap.size 0 z0 z1 z2 z3 z4 z5 := by
  refine ⟨?_, ?_, ?_, ?_, ?_, ?_⟩ <;> simp [go_sem]

set_option maxHeartbeats 8000000 in
set_option maxRecDepth 100000 in
theorem rngAll_true (w : World) (ar : Option Addr) (len cap : Nat) (hA : ∀ i, i < len → ∃ b off, ar = some ⟨b, off, none⟩ ∧ ∃ z0 z1 z2 z3 z4 z5 : Int, Ask6 w b (off + i * 6) z0 z1 z2 z3 z4 z5 ∧ z1 ≤ 9223372036854775807) : Calls Try.prog 6 #[.slice ar len cap] w fun e w' => e = .returned (.bool true) ∧ Below w.heap.size w w' := by
  have HA : Hid (∀ i, i < len → ∃ b off, ar = some ⟨b, off, none⟩ ∧ ∃ z0 z1 z2 z3 z4 z5 : Int, Ask6 w b (off + i * 6) z0 z1 z2 z3 z4 z5 ∧ z1 ≤ 9223372036854775807) := hA
  clear hA
  have kn := keep_new w w ⟨Below.refl _ _⟩
  go_enter Try.func6, Try.ntmps6
  go_upto_region 2 with fail
  obtain ⟨X, hX⟩ : ∃ X, X = w.alloc (.cells #[.slice none 0 0, .slice none 0 0] 29) := ⟨_, rfl⟩
  rw [← hX] at kn ⊢
  clear hX
  have H0 : Hid (KeepAt w X w.heap.size (.slice none 0 0) (.slice none 0 0) []) := kn
  clear kn
  go_wp2_with fail
  go_loopw [4] (fun iv wr => ∃ (i : Nat) (vL vW : Value) (E : List Ent), i ≤ len ∧ i ≤ 40 ∧ iv = .int .i64 i ∧ KeepAt w wr w.heap.size vL vW E ∧ E.length ≤ 4 * i) (fun iv _ => 40 - (intOf iv).toNat)
  case atStart => exact ⟨0, _, _, [], Nat.zero_le _, Nat.zero_le _, rfl, H0.out, by simp⟩
  case round =>
    clear H0
    obtain ⟨i, vL, vW, E, hil, hi40, rfl, hK, hE⟩ := hrel
    have HK : Hid (KeepAt w wr w.heap.size vL vW E ∧ E.length ≤ 4 * i) := ⟨hK, hE⟩
    clear hK hE
    by_cases hl : i < len
    · by_cases h40 : i < 40
      · obtain ⟨b, off, rfl, z0, z1, z2, z3, z4, z5, hask, hz1⟩ := HA.out i hl
        have ha := hask.below HK.out.1.kept.below
        have hblt : b < w.heap.size := World.block_lt_of_cell? _ _ hask.1
        have nY := ask_new wr z0 z1 z2 z3 z4 z5 33
        have kA := (Kept.refl wr).alloc #[.int .i64 z0, .int .i64 z1, .int .i64 z2, .int .i64 z3, .int .i64 z4, .int .i64 z5] 33
        have kY := HK.out.1.keptOn kA
        have hlt := HK.out.1.lt
        have g1 : (i : Int) < (len : Int) := by omega
        have g2 : (i : Int) < 40 := by omega
        have z1w : IntKind.i64.wrap ((i : Int) + 1) = (i : Int) + 1 := by rw [wrap_i64]; omega
        obtain ⟨c0, c1, c2, c3, c4, c5⟩ := ha
        go_upto_region 6 with fail
        obtain ⟨C, hC⟩ : ∃ C, C = wr.heap.size := ⟨_, rfl⟩
        obtain ⟨Y, hY⟩ : ∃ Y, Y = wr.alloc (.cells #[.int .i64 z0, .int .i64 z1, .int .i64 z2, .int .i64 z3, .int .i64 z4, .int .i64 z5] 33) := ⟨_, rfl⟩
        have hYs : Y.heap.size = C + 1 := by rw [hY, hC]; simp
        rw [← hC] at nY hlt ⊢
        rw [← hY] at nY kY ⊢
        clear hY hC kA c0 c1 c2 c3 c4 c5 hask
        have HS : Hid (∀ b ∈ w.heap.size :: (blk vL ++ blk vW), b < C) := fun b hb => hlt b (in_blks hb)
        clear hlt
        have HY : Hid (KeepAt w Y w.heap.size vL vW E ∧ Ask6 Y C 0 z0 z1 z2 z3 z4 z5) := ⟨kY, nY⟩
        obtain ⟨c0, c1, c2, c3, c4, c5⟩ := nY
        clear kY
        simp only [Nat.zero_add] at c0 c1 c2 c3 c4 c5
        by_cases hz0 : z0 = 0
        · subst hz0
          go_wp2_with fail
          refine (words_true z3 z4 z5 z1 z2 _).mono ?_
          rintro e w2 ⟨rfl, hk2⟩
          clear c0 c1 c2 c3 c4 c5
          have HF : Hid (KeepAt w w2 w.heap.size vL vW E ∧ E.length ≤ 4 * i) := ⟨HY.out.1.keptOn hk2, HK.out.2⟩
          clear hk2
          go_wp2_with fail
          go_roundw
          case rel => exact ⟨i + 1, vL, vW, E, by omega, by omega, by go_num, HF.out.1, by have := HF.out.2; omega⟩
          case measure => simp [intOf]; omega
        · have y0 : (z0 == 0) = false := by simpa using hz0
          by_cases hz1' : z0 = 1
          · subst hz1'
            go_wp2_with fail
            refine (drawn_true z3 z4 z5 z1 z2 hz1 _).mono ?_
            rintro e w2 ⟨rfl, hk2⟩
            clear c0 c1 c2 c3 c4 c5
            have HF : Hid (KeepAt w w2 w.heap.size vL vW E ∧ E.length ≤ 4 * i) := ⟨HY.out.1.keptOn hk2, HK.out.2⟩
            clear hk2
            go_wp2_with fail
            go_roundw
            case rel => exact ⟨i + 1, vL, vW, E, by omega, by omega, by go_num, HF.out.1, by have := HF.out.2; omega⟩
            case measure => simp [intOf]; omega
          · have y1 : (z0 == 1) = false := by simpa using hz1'
            by_cases hz2 : z0 = 2
            · subst hz2
              by_cases hbig : 200 < z1 ∧ z1 ≤ 65536
              · obtain ⟨hb1, hb2⟩ := hbig
                clear HS
                go_wp2_with fail
                go_roundw
                case rel => exact ⟨i + 1, vL, vW, E, by omega, by omega, by go_num, HY.out.1, by have := HK.out.2; omega⟩
                case measure => simp [intOf]; omega
              · have HO : Hid (∀ (u : World) (vA vB : Value) (F : List Ent), KeepAt w u w.heap.size vA vB F → F.length + 2 ≤ 300 → Calls Try.prog 12 #[.pointer (some ⟨w.heap.size, 0, none⟩), .agg #[.int .i64 z3, .int .i64 z4, .int .i64 z5], .int .i64 z1, .int .i64 z2] u fun e w' => e = .returned (.bool true) ∧ ∃ vL' vW' E', KeepAt w w' w.heap.size vL' vW' E' ∧ E'.length ≤ F.length + 2 ∧ Stay u w' w.heap.size vA vB vL' vW') := fun u vA vB F h1 h2 => orders_all w u w.heap.size vA vB F h1 h2 z3 z4 z5 z1 z2
                by_cases hb1 : 200 < z1
                · have hb2 : ¬ z1 ≤ 65536 := fun h => hbig ⟨hb1, h⟩
                  have v1 : decide (200 < z1) = true := decide_eq_true hb1
                  have v2 : decide (z1 ≤ 65536) = false := decide_eq_false hb2
                  clear hbig
                  go_wp2_with fail
                  refine (HO.out _ _ _ _ HY.out.1 (by have := HK.out.2; omega)).mono ?_
                  rintro e w2 ⟨rfl, vL1, vW1, E1, kp1, hE1, hst⟩
                  have ask2 := HY.out.2.block (hst.1 C (by omega) (fun hm => by have := HS.out C hm; omega))
                  clear c0 c1 c2 c3 c4 c5
                  obtain ⟨c0, c1, c2, c3, c4, c5⟩ := ask2
                  simp only [Nat.zero_add] at c0 c1 c2 c3 c4 c5
                  have HF1 : Hid (KeepAt w w2 w.heap.size vL1 vW1 E1 ∧ E1.length ≤ E.length + 2) := ⟨kp1, hE1⟩
                  clear kp1 hE1 hst
                  go_wp2_with fail
                  refine (HO.out _ _ _ _ HF1.out.1 (by have := HK.out.2; have := HF1.out.2; omega)).mono ?_
                  rintro e w3 ⟨rfl, vL2, vW2, E2, kp2, hE2, -⟩
                  clear c0 c1 c2 c3 c4 c5
                  have HF2 : Hid (KeepAt w w3 w.heap.size vL2 vW2 E2 ∧ E2.length ≤ E1.length + 2) := ⟨kp2, hE2⟩
                  clear kp2 hE2
                  go_wp2_with fail
                  go_roundw
                  case rel => exact ⟨i + 1, vL2, vW2, E2, by omega, by omega, by go_num, HF2.out.1, by have := HK.out.2; have := HF1.out.2; have := HF2.out.2; omega⟩
                  case measure => simp [intOf]; omega
                · have v1 : decide (200 < z1) = false := decide_eq_false hb1
                  clear hbig
                  go_wp2_with fail
                  refine (HO.out _ _ _ _ HY.out.1 (by have := HK.out.2; omega)).mono ?_
                  rintro e w2 ⟨rfl, vL1, vW1, E1, kp1, hE1, hst⟩
                  have ask2 := HY.out.2.block (hst.1 C (by omega) (fun hm => by have := HS.out C hm; omega))
                  clear c0 c1 c2 c3 c4 c5
                  obtain ⟨c0, c1, c2, c3, c4, c5⟩ := ask2
                  simp only [Nat.zero_add] at c0 c1 c2 c3 c4 c5
                  have HF1 : Hid (KeepAt w w2 w.heap.size vL1 vW1 E1 ∧ E1.length ≤ E.length + 2) := ⟨kp1, hE1⟩
                  clear kp1 hE1 hst
                  go_wp2_with fail
                  refine (HO.out _ _ _ _ HF1.out.1 (by have := HK.out.2; have := HF1.out.2; omega)).mono ?_
                  rintro e w3 ⟨rfl, vL2, vW2, E2, kp2, hE2, -⟩
                  clear c0 c1 c2 c3 c4 c5
                  have HF2 : Hid (KeepAt w w3 w.heap.size vL2 vW2 E2 ∧ E2.length ≤ E1.length + 2) := ⟨kp2, hE2⟩
                  clear kp2 hE2
                  go_wp2_with fail
                  go_roundw
                  case rel => exact ⟨i + 1, vL2, vW2, E2, by omega, by omega, by go_num, HF2.out.1, by have := HK.out.2; have := HF1.out.2; have := HF2.out.2; omega⟩
                  case measure => simp [intOf]; omega
            · have y2 : (z0 == 2) = false := by simpa using hz2
              clear HS
              go_wp2_with fail
              go_roundw
              case rel => exact ⟨i + 1, vL, vW, E, by omega, by omega, by go_num, HY.out.1, by have := HK.out.2; omega⟩
              case measure => simp [intOf]; omega
      · have g1 : (i : Int) < (len : Int) := by omega
        have g2 : ¬ (i : Int) < 40 := by omega
        have hE2 : E.length ≤ 300 := by have := HK.out.2; omega
        go_wp2_with fail
        refine (galive_true _).mono ?_
        rintro e w2 ⟨rfl, hk2⟩
        go_wp2_with fail
        refine (apart_true w w2 w.heap.size vL vW E (HK.out.1.keptOn hk2) hE2).mono ?_
        rintro e w3 ⟨rfl, hb⟩
        go_wp2
        go_ret
        exact ⟨rfl, hb.below⟩
    · have g1 : ¬ (i : Int) < (len : Int) := by omega
      have g3 : ¬ i < len := hl
      have hE2 : E.length ≤ 300 := by have := HK.out.2; omega
      go_wp2_with fail
      refine (galive_true _).mono ?_
      rintro e w2 ⟨rfl, hk2⟩
      go_wp2_with fail
      refine (apart_true w w2 w.heap.size vL vW E (HK.out.1.keptOn hk2) hE2).mono ?_
      rintro e w3 ⟨rfl, hb⟩
      go_wp2
      go_ret
      exact ⟨rfl, hb.below⟩

end Go.Proofs.Ytakdnodgcdddeaa
