/- Whether a lent set stays; a row cut out. -/
import Derived.Test.YtcjgdfnbjbboeaaWr28
import Derived.Test.YtcjgdfnbjbboeaaWr33
import Derived.Test.YtcjgdfnbjbboeaaWr34
namespace Go.Proofs.Ytcjgdfnbjbboeaa
open Go.ChangeShapes Go.WideShapes Go.ChangeAt Go.RowKit
set_option linter.unusedVariables false
set_option linter.unusedSimpArgs false

set_option maxHeartbeats 4000000 in
set_option maxRecDepth 100000 in
theorem dlight_any (r c n : Int) (a : Option Addr) (l p : Nat) (r' c' n' : Int) (a' : Option Addr) (l' p' : Nat) (hl : l ≤ 4611686018427387904) (hl' : l' ≤ 4611686018427387903) (w : World) : Calls Try.prog 6 #[sv8 r c n (.slice a l p) r' c' n' (.slice a' l' p')] w fun e w' => e = .returned (.bool (decide ((l : Int) + (l' : Int) ≤ 600))) ∧ Kept w w' := by
  have z1 : IntKind.i64.wrap ((l : Int) + (l' : Int)) = (l : Int) + (l' : Int) := by rw [wrap_i64]; omega
  go_enter Try.func6, Try.ntmps6
  go_wp2
  go_ret
  exact ⟨rfl, (Kept.refl _).alloc _ _⟩

set_option maxHeartbeats 4000000 in
set_option maxRecDepth 100000 in
theorem staysSet_true (r c n : Int) (L : List Int) (hl : L.length < 900000) (g cap : Nat) (a : Option Addr) (p : Nat) (r' c' n' : Int) (L' : List Int) (hl' : L'.length < 900000) (g' cap' : Nat) (a' : Option Addr) (p' : Nat) (w : World) (ho : Own w g cap (L ++ [-77, -78])) (h : Sl w (.slice a L.length p) L) (ho' : Own w g' cap' (L' ++ [-77, -78])) (h' : Sl w (.slice a' L'.length p') L') :
    Calls Try.prog 15 #[sv8 r c n (.slice (some ⟨g, 0, none⟩) L.length cap) r' c' n' (.slice (some ⟨g', 0, none⟩) L'.length cap'), sv8 r c n (.slice a L.length p) r' c' n' (.slice a' L'.length p')] w fun e w' => e = .returned (.bool true) ∧ Kept w w' := by
  obtain ⟨X, hX⟩ : ∃ X, X = (w.alloc (.cells (sl8 r c n (.slice (some ⟨g, 0, none⟩) L.length cap) r' c' n' (.slice (some ⟨g', 0, none⟩) L'.length cap')).toArray 26)).alloc (.cells (sl8 r c n (.slice a L.length p) r' c' n' (.slice a' L'.length p')).toArray 26) := ⟨_, rfl⟩
  have hK : Kept w X := by rw [hX]; exact ((Kept.refl w).alloc _ _).alloc _ _
  have hM : Bq X w.heap.size (sl8 r c n (.slice (some ⟨g, 0, none⟩) L.length cap) r' c' n' (.slice (some ⟨g', 0, none⟩) L'.length cap')) := by rw [hX]; exact (Bq.new w _ 26).kept ((Kept.refl _).alloc _ _)
  have hN : Bq X (w.heap.size + 1) (sl8 r c n (.slice a L.length p) r' c' n' (.slice a' L'.length p')) := by
    have := Bq.new (w.alloc (.cells (sl8 r c n (.slice (some ⟨g, 0, none⟩) L.length cap) r' c' n' (.slice (some ⟨g', 0, none⟩) L'.length cap')).toArray 26)) (sl8 r c n (.slice a L.length p) r' c' n' (.slice a' L'.length p')) 26
    rw [hX]
    simpa using this
  have K1 : Hid (∀ u, Kept w u → Calls Try.prog 16 #[.slice (some ⟨g, 0, none⟩) L.length cap, .slice a L.length p] u fun e w' => e = .returned (.bool true) ∧ Kept u w') := fun u k => staysInts_true L hl g cap a p u (ho.kept k) (h.kept k)
  have K2 : Hid (∀ u, Kept w u → Calls Try.prog 16 #[.slice (some ⟨g', 0, none⟩) L'.length cap', .slice a' L'.length p'] u fun e w' => e = .returned (.bool true) ∧ Kept u w') := fun u k => staysInts_true L' hl' g' cap' a' p' u (ho'.kept k) (h'.kept k)
  clear ho h ho' h'
  generalize L.length = l at *
  generalize L'.length = l' at *
  have e1 : (r == r) = true := by simp
  have e3 : (r' == r') = true := by simp
  go_enter Try.func15, Try.ntmps15
  go_upto_region 1 with fail
  rw [← hX]
  clear hX
  have c3 := hM.c 3 _ rfl
  have c7 := hM.c 7 _ rfl
  have d3 := hN.c 3 _ rfl
  have d7 := hN.c 7 _ rfl
  go_wp2_with fail
  refine (K1.out _ hK).mono ?_
  rintro e w1 ⟨rfl, k1⟩
  have hM1 := hM.kept k1
  have hN1 := hN.kept k1
  have hK1 := hK.trans k1
  clear c3 c7 d3 d7 hM hN hK k1
  have c7 := hM1.c 7 _ rfl
  have d7 := hN1.c 7 _ rfl
  go_wp2_with fail
  refine (K2.out _ hK1).mono ?_
  rintro e w2 ⟨rfl, k2⟩
  have hM2 := hM1.kept k2
  have hN2 := hN1.kept k2
  have hK2 := hK1.trans k2
  clear c7 d7 hM1 hN1 hK1 k2
  have c0 := hM2.c 0 _ rfl
  have d0 := hN2.c 0 _ rfl
  have c4 := hM2.c 4 _ rfl
  have d4 := hN2.c 4 _ rfl
  go_wp2
  go_ret
  exact ⟨rfl, hK2⟩

theorem bpt_reads {w : World} {b off : Nat} {M : List Int} (h : Reads w b off M) (f k : Nat) (hf : f + k ≤ M.length) : Reads w b (off + f) (bpt M f k) := fun i hi => by
  rw [bpt_len M f k hf] at hi
  rw [Nat.add_assoc, h (f + i) (by omega)]
  congr 2
  unfold bpt
  rw [List.getD_eq_getElem?_getD, List.getD_eq_getElem?_getD, List.getElem?_take_of_lt hi, List.getElem?_drop]

set_option maxHeartbeats 4000000 in
set_option maxRecDepth 100000 in
theorem cut_any (R C k : Nat) (n : Int) (hk : k < R) (hC : 0 < C) (hRC : R * C ≤ 100000) (M : List Int) (hM : M.length = R * C) (b off l cap : Nat) (hl : l = R * C) (hcap : l ≤ cap) (w : World) (hb : b < w.heap.size) (hr : Reads w b off M) (hcm : cap ≤ maxLen) : Calls Try.prog 29 #[.agg #[.int .i64 R, .int .i64 C, .int .i64 n, .slice (some ⟨b, off, none⟩) l cap], .int .i64 k] w fun e w' => ∃ g cp, e = .returned (.agg #[.int .i64 1, .int .i64 C, .int .i64 n, .slice (some ⟨g, 0, none⟩) C cp]) ∧ w.heap.size ≤ g ∧ Own w' g cp (bpt M (k * C) C) ∧ Kept w w' := by
  have h1 : (k + 1) * C ≤ R * C := Nat.mul_le_mul_right _ hk
  have h2 : (k + 1) * C = k * C + C := by rw [Nat.succ_mul]
  have hbl : (bpt M (k * C) C).length = C := bpt_len M _ _ (by omega)
  have hrd := bpt_reads hr (k * C) C (by omega)
  obtain ⟨p, hp⟩ : ∃ p, k * C = p := ⟨_, rfl⟩
  have e1 : (k : Int) * (C : Int) = (p : Int) := by rw [← hp]; simp
  have e2 : ((k : Int) + 1) * (C : Int) = ((p + C : Nat) : Int) := by rw [← hp, ← h2]; simp
  have z0 : IntKind.i64.wrap ((k : Int) + 1) = (k : Int) + 1 := by
    rw [wrap_i64]
    have := Nat.le_mul_of_pos_right R hC
    omega
  have z1 : IntKind.i64.wrap ((k : Int) * (C : Int)) = (p : Int) := by rw [e1, wrap_i64]; omega
  have z2 : IntKind.i64.wrap (((k : Int) + 1) * (C : Int)) = ((p + C : Nat) : Int) := by rw [e2, wrap_i64]; omega
  rw [hp] at hrd hbl ⊢
  have g1 : p + C ≤ cap := by omega
  have g2 : ¬ C = 0 := by omega
  have g3 : p + C - p = C := by omega
  have g4 : ¬ cap = p := by omega
  have g5 : 0 ≤ (p : Int) + (C : Int) := by omega
  have g6 : (p : Int) + (C : Int) ≤ (cap : Int) := by omega
  have g7 : ((p : Int) + (C : Int)).toNat = p + C := by omega
  have g8 : p ≤ p + C := by omega
  obtain ⟨X, hX⟩ : ∃ X, X = (w.alloc (.cells #[.int .i64 R, .int .i64 C, .int .i64 n, .slice (some ⟨b, off, none⟩) l cap] 24)).alloc (.cells #[.int .i64 0, .int .i64 0, .int .i64 0, .slice none 0 0] 24) := ⟨_, rfl⟩
  have hK : Kept w X := by rw [hX]; exact ((Kept.refl w).alloc _ _).alloc _ _
  have hXs : X.heap.size = w.heap.size + 2 := by rw [hX]; simp
  have hQ : Bq X w.heap.size [.int .i64 R, .int .i64 C, .int .i64 n, .slice (some ⟨b, off, none⟩) l cap] := by rw [hX]; exact (Bq.new w _ 24).kept ((Kept.refl _).alloc _ _)
  have hN : Bq X (w.heap.size + 1) [.int .i64 0, .int .i64 0, .int .i64 0, .slice none 0 0] := by
    have := Bq.new (w.alloc (.cells #[.int .i64 R, .int .i64 C, .int .i64 n, .slice (some ⟨b, off, none⟩) l cap] 24)) [.int .i64 0, .int .i64 0, .int .i64 0, .slice none 0 0] 24
    rw [hX]
    simpa using this
  have HS : Hid (∀ u, Kept X u → Kept X u ∧ u.cell? ⟨w.heap.size, 0, none⟩ = some (.int .i64 R) ∧ u.cell? ⟨w.heap.size, 1, none⟩ = some (.int .i64 C) ∧ u.cell? ⟨w.heap.size, 2, none⟩ = some (.int .i64 n) ∧ u.cell? ⟨w.heap.size, 3, none⟩ = some (.slice (some ⟨b, off, none⟩) l cap)) := fun u k => ⟨k, (hQ.kept k).c 0 _ rfl, (hQ.kept k).c 1 _ rfl, (hQ.kept k).c 2 _ rfl, (hQ.kept k).c 3 _ rfl⟩
  have hSl : Sl X.drew (.slice (some ⟨b, off + p, none⟩) C (cap - p)) (bpt M p C) := ⟨_, _, by rw [hbl], by rw [hbl]; omega, by omega, fun _ => ⟨_, _, rfl, Nat.lt_of_lt_of_le hb hK.below.size, (hrd.kept hb (hK.trans (Kept.refl X).drew))⟩⟩
  obtain ⟨v1, w1, a1, ak, ao⟩ := app_nil (bpt M p C) (by rw [hbl]; omega) _ X.drew hSl
  obtain ⟨g, cp, rfl, hg, ho⟩ : ∃ g cp, v1 = .slice (some ⟨g, 0, none⟩) C cp ∧ X.drew.heap.size ≤ g ∧ Own w1 g cp (bpt M p C) := by
    rcases ao with ⟨e, -⟩ | ⟨g, cp, e, h3, h4⟩
    · rw [e] at hbl; simp at hbl; omega
    · rw [hbl] at e; exact ⟨g, cp, e, h3, h4⟩
  have HA := hidq a1
  have hg2 : X.heap.size ≤ g := hg
  have kk : Kept X w1 := (Kept.refl X).drew.trans ak
  clear e1 e2 h1 h2 hp hl a1 hSl hrd hr hbl hg hRC hM hcm
  go_enter Try.func29, Try.ntmps29
  go_upto_region 1 with fail
  rw [← hX]
  clear hX hQ
  refine wp_region_late [18] (fun u => Kept X u ∧ u.cell? ⟨w.heap.size, 0, none⟩ = some (.int .i64 R) ∧ u.cell? ⟨w.heap.size, 1, none⟩ = some (.int .i64 C) ∧ u.cell? ⟨w.heap.size, 2, none⟩ = some (.int .i64 n) ∧ u.cell? ⟨w.heap.size, 3, none⟩ = some (.slice (some ⟨b, off, none⟩) l cap)) (by kernel_rfl) (HS.out _ (Kept.refl X).drew) (fun hHeld => ?_)
  refine wpAnyD_take (i := 0) (v := ?_) rfl (by kernel_rfl) (by kernel_rfl) (by kernel_rfl) (by kernel_rfl) (fun _ _ _ h => h) (Or.inl ⟨by rfl, ?hya0⟩) hHeld ?_
  case hya0 => (intro w hSw; (try dsimp only at hSw); go_simp; try (with_reducible rfl))
  (try simp only [Act.put, List.getElem_toArray, List.getElem_cons_succ, List.getElem_cons_zero, List.setIfInBounds_toArray, List.set_cons_zero, List.set_cons_succ])
  refine wpAnyD_take (i := 1) (v := ?_) rfl (by kernel_rfl) (by kernel_rfl) (by kernel_rfl) (by kernel_rfl) (fun _ _ _ h => h) (Or.inl ⟨by rfl, ?hya1⟩) hHeld ?_
  case hya1 => (intro w hSw; (try dsimp only at hSw); go_simp; try (with_reducible rfl))
  (try simp only [Act.put, List.getElem_toArray, List.getElem_cons_succ, List.getElem_cons_zero, List.setIfInBounds_toArray, List.set_cons_zero, List.set_cons_succ])
  refine wpAnyD_take (i := 2) (v := ?_) rfl (by kernel_rfl) (by kernel_rfl) (by kernel_rfl) (by kernel_rfl) (fun _ _ _ h => h) (Or.inl ⟨by rfl, ?hya2⟩) hHeld ?_
  case hya2 => (intro w hSw; (try dsimp only at hSw); go_simp; try (with_reducible rfl))
  (try simp only [Act.put, List.getElem_toArray, List.getElem_cons_succ, List.getElem_cons_zero, List.setIfInBounds_toArray, List.set_cons_zero, List.set_cons_succ])
  refine wpAnyD_take (i := 3) (v := ?_) rfl (by kernel_rfl) (by kernel_rfl) (by kernel_rfl) (by kernel_rfl) (fun _ _ _ h => h) (Or.inl ⟨by rfl, ?hya3⟩) hHeld ?_
  case hya3 => (intro w hSw; (try dsimp only at hSw); go_simp; try (with_reducible rfl))
  (try simp only [Act.put, List.getElem_toArray, List.getElem_cons_succ, List.getElem_cons_zero, List.setIfInBounds_toArray, List.set_cons_zero, List.set_cons_succ])
  refine wpAnyD_take (i := 4) (v := ?_) rfl (by kernel_rfl) (by kernel_rfl) (by kernel_rfl) (by kernel_rfl) (fun _ _ _ h => h) (Or.inl ⟨by rfl, ?hya4⟩) hHeld ?_
  case hya4 => (intro w hSw; (try dsimp only at hSw); go_simp; try (with_reducible rfl))
  (try simp only [Act.put, List.getElem_toArray, List.getElem_cons_succ, List.getElem_cons_zero, List.setIfInBounds_toArray, List.set_cons_zero, List.set_cons_succ])
  refine wpAnyD_take (i := 5) (v := ?_) rfl (by kernel_rfl) (by kernel_rfl) (by kernel_rfl) (by kernel_rfl) (fun _ _ _ h => h) (Or.inl ⟨by rfl, ?hya5⟩) hHeld ?_
  case hya5 => (intro w hSw; (try dsimp only at hSw); go_simp; try (with_reducible rfl))
  (try simp only [Act.put, List.getElem_toArray, List.getElem_cons_succ, List.getElem_cons_zero, List.setIfInBounds_toArray, List.set_cons_zero, List.set_cons_succ])
  refine wpAnyD_take (i := 6) (v := ?_) rfl (by kernel_rfl) (by kernel_rfl) (by kernel_rfl) (by kernel_rfl) (fun _ _ _ h => h) (Or.inl ⟨by rfl, ?hya6⟩) hHeld ?_
  case hya6 => (intro w hSw; (try dsimp only at hSw); go_simp; try (with_reducible rfl))
  (try simp only [Act.put, List.getElem_toArray, List.getElem_cons_succ, List.getElem_cons_zero, List.setIfInBounds_toArray, List.set_cons_zero, List.set_cons_succ])
  refine wpAnyD_take (i := 7) (v := ?_) rfl (by kernel_rfl) (by kernel_rfl) (by kernel_rfl) (by kernel_rfl) (fun _ _ _ h => h) (Or.inl ⟨by rfl, ?hya7⟩) hHeld ?_
  case hya7 => (intro w hSw; (try dsimp only at hSw); go_simp; try (with_reducible rfl))
  (try simp only [Act.put, List.getElem_toArray, List.getElem_cons_succ, List.getElem_cons_zero, List.setIfInBounds_toArray, List.set_cons_zero, List.set_cons_succ])
  refine wpAnyD_take (i := 8) (v := ?_) rfl (by kernel_rfl) (by kernel_rfl) (by kernel_rfl) (by kernel_rfl) (fun _ _ _ h => h) (Or.inl ⟨by rfl, ?hya8⟩) hHeld ?_
  case hya8 => (intro w hSw; (try dsimp only at hSw); go_simp; try (with_reducible rfl))
  (try simp only [Act.put, List.getElem_toArray, List.getElem_cons_succ, List.getElem_cons_zero, List.setIfInBounds_toArray, List.set_cons_zero, List.set_cons_succ])
  refine wpAnyD_take (i := 9) (v := ?_) rfl (by kernel_rfl) (by kernel_rfl) (by kernel_rfl) (by kernel_rfl) (fun _ _ _ h => h) (Or.inl ⟨by rfl, ?hya9⟩) hHeld ?_
  case hya9 => (intro w hSw; (try dsimp only at hSw); go_simp; try (with_reducible rfl))
  (try simp only [Act.put, List.getElem_toArray, List.getElem_cons_succ, List.getElem_cons_zero, List.setIfInBounds_toArray, List.set_cons_zero, List.set_cons_succ])
  refine wpAnyD_take (i := 10) (v := ?_) rfl (by kernel_rfl) (by kernel_rfl) (by kernel_rfl) (by kernel_rfl) (fun _ _ _ h => h) (Or.inl ⟨by rfl, ?hya10⟩) hHeld ?_
  case hya10 => (intro w hSw; (try dsimp only at hSw); go_simp; try (with_reducible rfl))
  (try simp only [Act.put, List.getElem_toArray, List.getElem_cons_succ, List.getElem_cons_zero, List.setIfInBounds_toArray, List.set_cons_zero, List.set_cons_succ])
  refine wpAnyD_take (i := 11) (v := ?_) rfl (by kernel_rfl) (by kernel_rfl) (by kernel_rfl) (by kernel_rfl) (fun _ _ _ h => h) (Or.inl ⟨by rfl, ?hya11⟩) hHeld ?_
  case hya11 => (intro w hSw; (try dsimp only at hSw); go_simp; try (with_reducible rfl))
  (try simp only [Act.put, List.getElem_toArray, List.getElem_cons_succ, List.getElem_cons_zero, List.setIfInBounds_toArray, List.set_cons_zero, List.set_cons_succ])
  refine wpAnyD_take (i := 12) (v := ?_) rfl (by kernel_rfl) (by kernel_rfl) (by kernel_rfl) (by kernel_rfl) (fun _ _ _ h => h) (Or.inl ⟨by rfl, ?hya12⟩) hHeld ?_
  case hya12 => (intro w hSw; (try dsimp only at hSw); go_simp; try (with_reducible rfl))
  (try simp only [Act.put, List.getElem_toArray, List.getElem_cons_succ, List.getElem_cons_zero, List.setIfInBounds_toArray, List.set_cons_zero, List.set_cons_succ])
  refine wpAnyD_take (i := 13) (v := ?_) rfl (by kernel_rfl) (by kernel_rfl) (by kernel_rfl) (by kernel_rfl) (fun _ _ _ h => h) (Or.inl ⟨by rfl, ?hya13⟩) hHeld ?_
  case hya13 => (intro w hSw; (try dsimp only at hSw); go_simp; try (with_reducible rfl))
  (try simp only [Act.put, List.getElem_toArray, List.getElem_cons_succ, List.getElem_cons_zero, List.setIfInBounds_toArray, List.set_cons_zero, List.set_cons_succ])
  refine wpAnyD_take (i := 14) (v := ?_) rfl (by kernel_rfl) (by kernel_rfl) (by kernel_rfl) (by kernel_rfl) (fun _ _ _ h => h) (Or.inl ⟨by rfl, ?hya14⟩) hHeld ?_
  case hya14 => (intro w hSw; (try dsimp only at hSw); go_simp; try (with_reducible rfl))
  (try simp only [Act.put, List.getElem_toArray, List.getElem_cons_succ, List.getElem_cons_zero, List.setIfInBounds_toArray, List.set_cons_zero, List.set_cons_succ])
  refine wpAnyD_take (i := 15) (v := ?_) rfl (by kernel_rfl) (by kernel_rfl) (by kernel_rfl) (by kernel_rfl) (fun _ _ _ h => h) (Or.inl ⟨by rfl, ?hya15⟩) hHeld ?_
  case hya15 => (intro w hSw; (try dsimp only at hSw); go_simp; try (with_reducible rfl))
  (try simp only [Act.put, List.getElem_toArray, List.getElem_cons_succ, List.getElem_cons_zero, List.setIfInBounds_toArray, List.set_cons_zero, List.set_cons_succ])
  refine wpAnyD_step (i := 16) (by kernel_rfl) rfl (fun K hK9 => ?_)
  rw [if_pos (by rfl)]
  refine oper_append_run _ _ _ rfl _ _ rfl rfl _ _ (HA.out _) ?_
  refine hK9.out _ _ (HS.out _ kk) (fun hH1 => ?_)
  clear hK9 K
  (try simp only [Act.put, List.getElem_toArray, List.getElem_cons_succ, List.getElem_cons_zero, List.setIfInBounds_toArray, List.set_cons_zero, List.set_cons_succ])
  refine wpAnyD_take (i := 17) (v := ?_) rfl (by kernel_rfl) (by kernel_rfl) (by kernel_rfl) (by kernel_rfl) (fun _ _ _ h => h) (Or.inl ⟨by rfl, ?hyb17⟩) hH1 ?_
  case hyb17 => (intro w hSw; (try dsimp only at hSw); go_simp; try (with_reducible rfl))
  (try simp only [Act.put, List.getElem_toArray, List.getElem_cons_succ, List.getElem_cons_zero, List.setIfInBounds_toArray, List.set_cons_zero, List.set_cons_succ])
  have hR2 := hN.kept kk
  have d0 := hR2.c 0 _ rfl
  have d1 := hR2.c 1 _ rfl
  have d2 := hR2.c 2 _ rfl
  have d3 := hR2.c 3 _ rfl
  have fz := hR2.fz
  refine wpAnyD_late (i := 18) (by kernel_rfl) rfl rfl (fun K hK9 => ?_)
  go_simp
  refine hK9.out _ _ ?_
  clear hK9 K
  (try simp only [Act.put, List.getElem_toArray, List.getElem_cons_succ, List.getElem_cons_zero, List.setIfInBounds_toArray, List.set_cons_zero, List.set_cons_succ])
  refine wpAnyD_done (by kernel_rfl) ?_ _
  (try simp only [Act.put, List.getElem_toArray, List.getElem_cons_succ, List.getElem_cons_zero, List.setIfInBounds_toArray, List.set_cons_zero, List.set_cons_succ])
  go_wp2_with fail
  have hR := res4 w1 (w.heap.size + 1) _ _ _ _ ⟨d0, d1, d2, d3⟩ (.int .i64 1) (.int .i64 C) (.int .i64 n) (.slice (some ⟨g, 0, none⟩) C cp)
  obtain ⟨r0, r1, r2, r3⟩ := hR
  have hoZ := (((ho.setOther (p := ⟨w.heap.size + 1, 0, none⟩) (by show g ≠ w.heap.size + 1; omega) (.int .i64 1)).setOther (p := ⟨w.heap.size + 1, 1, none⟩) (by show g ≠ w.heap.size + 1; omega) (.int .i64 C)).setOther (p := ⟨w.heap.size + 1, 2, none⟩) (by show g ≠ w.heap.size + 1; omega) (.int .i64 n)).setOther (p := ⟨w.heap.size + 1, 3, none⟩) (by show g ≠ w.heap.size + 1; omega) (.slice (some ⟨g, 0, none⟩) C cp)
  have hKZ := ((((hK.trans kk).setCell (p := ⟨w.heap.size + 1, 0, none⟩) (by simp) (.int .i64 1)).setCell (p := ⟨w.heap.size + 1, 1, none⟩) (by simp) (.int .i64 C)).setCell (p := ⟨w.heap.size + 1, 2, none⟩) (by simp) (.int .i64 n)).setCell (p := ⟨w.heap.size + 1, 3, none⟩) (by simp) (.slice (some ⟨g, 0, none⟩) C cp)
  exact bodyPost_ret (v := .agg #[.int .i64 1, .int .i64 C, .int .i64 n, .slice (some ⟨g, 0, none⟩) C cp]) (by simp [results, Try.f29, go_sem, r0, r1, r2, r3]) rfl ⟨g, cp, rfl, by omega, hoZ, hKZ⟩

end Go.Proofs.Ytcjgdfnbjbboeaa
