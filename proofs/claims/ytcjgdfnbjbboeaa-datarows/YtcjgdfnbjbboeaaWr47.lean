/- Row of package data. -/
import Derived.Test.YtcjgdfnbjbboeaaWr45
import Derived.Test.YtcjgdfnbjbboeaaWr46
namespace Go.Proofs.Ytcjgdfnbjbboeaa
open Go.ChangeShapes Go.WideShapes Go.ChangeAt Go.RowKit
set_option linter.unusedVariables false
set_option linter.unusedSimpArgs false

/-- four cells stored -/
abbrev st4w (Y : World) (B : Nat) (v0 v1 v2 v3 : Value) : World := (((Y.setCell ⟨B, 0, none⟩ v0).setCell ⟨B, 1, none⟩ v1).setCell ⟨B, 2, none⟩ v2).setCell ⟨B, 3, none⟩ v3
theorem st4 (Y : World) (B : Nat) (vs : List Value) (hl : vs.length = 4) (h : Bq Y B vs) (v0 v1 v2 v3 : Value) : Bq (st4w Y B v0 v1 v2 v3) B [v0, v1, v2, v3] := by
  have e : ∀ i, i < 4 → ∃ v, Y.cell? ⟨B, i, none⟩ = some v := fun i hi => ⟨vs[i]'(by omega), h.c i _ (List.getElem?_eq_getElem (by omega))⟩
  obtain ⟨x0, e0⟩ := e 0 (by decide)
  obtain ⟨x1, e1⟩ := e 1 (by decide)
  obtain ⟨x2, e2⟩ := e 2 (by decide)
  obtain ⟨x3, e3⟩ := e 3 (by decide)
  refine ⟨fun i v hv => ?_, fun o => by simp [h.fz o], by simpa using h.lt⟩
  rcases i with _ | _ | _ | _ | i <;> first | (simp at hv; subst hv; simp [go_sem, e0, e1, e2, e3]) | (simp at hv)
theorem Bq.far {Y : World} {b : Nat} {vs : List Value} (h : Bq Y b vs) {p : Addr} (hne : b ≠ p.block) (v : Value) : Bq (Y.setCell p v) b vs := by
  have hb : (Y.setCell p v).heap[b]? = Y.heap[b]? := Below.heap_setCell _ _ _ _ hne
  exact ⟨fun i x e => (World.cell?_of_block (w := Y) (a := ⟨b, i, none⟩) hb).trans (h.c i x e), fun o => (World.frozen?_of_block (a := ⟨b, o, none⟩) hb).trans (h.fz o), by simpa using h.lt⟩
theorem st4_far {Y : World} {b B : Nat} {vs : List Value} (h : Bq Y b vs) (hne : b ≠ B) (v0 v1 v2 v3 : Value) : Bq (st4w Y B v0 v1 v2 v3) b vs := (((h.far (p := ⟨B, 0, none⟩) hne v0).far (p := ⟨B, 1, none⟩) hne v1).far (p := ⟨B, 2, none⟩) hne v2).far (p := ⟨B, 3, none⟩) hne v3
theorem st4_below {W Y : World} {B H : Nat} (hk : Below H W Y) (hB : H ≤ B) (v0 v1 v2 v3 : Value) : Below H W (st4w Y B v0 v1 v2 v3) := (((hk.setCell (p := ⟨B, 0, none⟩) hB v0).setCell (p := ⟨B, 1, none⟩) hB v1).setCell (p := ⟨B, 2, none⟩) hB v2).setCell (p := ⟨B, 3, none⟩) hB v3
theorem st4_kept {W Y : World} {B : Nat} (hk : Kept W Y) (hB : W.heap.size ≤ B) (v0 v1 v2 v3 : Value) : Kept W (st4w Y B v0 v1 v2 v3) := (((hk.setCell (p := ⟨B, 0, none⟩) hB v0).setCell (p := ⟨B, 1, none⟩) hB v1).setCell (p := ⟨B, 2, none⟩) hB v2).setCell (p := ⟨B, 3, none⟩) hB v3
theorem ew_far {Y : World} {a : Option Addr} {cp : Nat} {K : List Int} (h : Ew Y a cp K) {p : Addr} (hne : ∀ b ∈ eb a, b ≠ p.block) (v : Value) : Ew (Y.setCell p v) a cp K := by
  rcases h with h | ⟨b, rfl, ho⟩
  · exact .inl h
  · exact .inr ⟨b, rfl, ho.setOther (hne b (by simp [eb])) v⟩
theorem SR.far {H : Nat} {w : World} {a : Option Addr} {cp : Nat} {K : List Int} {a' : Option Addr} {cp' : Nat} {K' : List Int} (h : SR H w a cp K a' cp' K') {p : Addr} (hp : p.block < H) (v : Value) : SR H (w.setCell p v) a cp K a' cp' K' := by
  obtain ⟨h1, h2, h3, h4, h5, h6, Hm, g1, g2, g3, g4⟩ := h
  exact ⟨ew_far h1 (fun b hb => by have := g3 b hb; omega) v, ew_far h2 (fun b hb => by have := g4 b hb; omega) v, h3, h4, h5, h6, Hm, g1, by simpa using g2, g3, fun b hb => by simpa using g4 b hb⟩
theorem st4_sr {H B : Nat} {w : World} {a : Option Addr} {cp : Nat} {K : List Int} {a' : Option Addr} {cp' : Nat} {K' : List Int} (h : SR H w a cp K a' cp' K') (hp : B < H) (v0 v1 v2 v3 : Value) : SR H (st4w w B v0 v1 v2 v3) a cp K a' cp' K' := (((h.far (p := ⟨B, 0, none⟩) hp v0).far (p := ⟨B, 1, none⟩) hp v1).far (p := ⟨B, 2, none⟩) hp v2).far (p := ⟨B, 3, none⟩) hp v3
theorem SR.mono {H H' : Nat} {w : World} {a : Option Addr} {cp : Nat} {K : List Int} {a' : Option Addr} {cp' : Nat} {K' : List Int} (h : SR H w a cp K a' cp' K') (hh : H' ≤ H) : SR H' w a cp K a' cp' K' := by
  obtain ⟨h1, h2, h3, h4, h5, h6, Hm, g1, g2, g3, g4⟩ := h
  exact ⟨h1, h2, h3, h4, h5, h6, Hm, Nat.le_trans hh g1, g2, fun b hb => ⟨Nat.le_trans hh (g3 b hb).1, (g3 b hb).2⟩, g4⟩
/-- the answer of a Row -/
def RA (r c n : Int) (L : List Int) (r' c' n' : Int) (L' J : List Int) (H : Nat) (e : Ending) (w' : World) : Prop := ∃ (q m cc cc' nn : Int) (a : Option Addr) (p : Nat) (K : List Int) (a' : Option Addr) (p' : Nat) (K' : List Int), e = .returned (.tuple #[.agg #[.int .i64 m, .int .i64 cc, .int .i64 nn, .slice a K.length p], .agg #[.int .i64 m, .int .i64 cc', .int .i64 nn, .slice a' K'.length p'], .int .i64 q]) ∧ PS r c n L r' c' n' L' J q m cc cc' nn K K' ∧ SR H w' a p K a' p' K'

set_option maxHeartbeats 8000000 in
set_option maxRecDepth 100000 in
theorem row_any (r c n : Int) (a : Option Addr) (p : Nat) (L : List Int) (r' c' n' : Int) (a' : Option Addr) (p' : Nat) (L' : List Int) (row : Int) (w : World) (hX : Sl w (.slice a L.length p) L) (hY : Sl w (.slice a' L'.length p') L') :
    Calls Try.prog 8 #[sv8 r c n (.slice a L.length p) r' c' n' (.slice a' L'.length p'), .int .i64 row] w fun e w' => RA r c n L r' c' n' L' [row] w.heap.size e w' ∧ Below w.heap.size w w' := by
  have KP : Hid (∀ u G, Below w.heap.size w u → G < u.heap.size → Reads u G 0 [row] → Calls Try.prog 13 #[sv8 r c n (.slice a L.length p) r' c' n' (.slice a' L'.length p'), .slice (some ⟨G, 0, none⟩) 1 1] u fun e w' => ∃ (q m cc cc' nn : Int) (a1 : Option Addr) (p1 kl : Nat) (a1' : Option Addr) (p1' kl' : Nat), e = .returned (.tuple #[sv8 m cc nn (.slice a1 kl p1) m cc' nn (.slice a1' kl' p1'), .int .i64 q]) ∧ Hid (∃ K K' : List Int, K.length = kl ∧ K'.length = kl' ∧ PS r c n L r' c' n' L' [row] q m cc cc' nn K K' ∧ SR u.heap.size w' a1 p1 K a1' p1' K') ∧ Below u.heap.size u w') := fun u G k hG hr => (pick_any r c n a p L r' c' n' a' p' L' [row] (by simp) _ 1 u (sl_below hX k) (sl_below hY k) ⟨_, 1, rfl, by simp, by simp [maxLen], fun _ => ⟨G, 0, rfl, hG, hr⟩⟩).mono fun e w' ⟨⟨q, m, cc, cc', nn, a1, p1, K, a1', p1', K', h1, h2, h3⟩, h4⟩ => ⟨q, m, cc, cc', nn, a1, p1, _, a1', p1', _, h1, hidq ⟨K, K', rfl, rfl, h2, h3⟩, h4⟩
  clear hX hY
  obtain ⟨X, hXw⟩ : ∃ X, X = (((w.alloc (.cells (sl8 r c n (.slice a L.length p) r' c' n' (.slice a' L'.length p')).toArray 26)).alloc (.cells #[.int .i64 0, .int .i64 0, .int .i64 0, .slice none 0 0] 24)).alloc (.cells #[.int .i64 0, .int .i64 0, .int .i64 0, .slice none 0 0] 24)) := ⟨_, rfl⟩
  have hK : Kept w X := by rw [hXw]; exact (((Kept.refl w).alloc _ _).alloc _ _).alloc _ _
  have hXs : X.heap.size = w.heap.size + 3 := by rw [hXw]; simp
  have hB : Bq X w.heap.size (sl8 r c n (.slice a L.length p) r' c' n' (.slice a' L'.length p')) := by rw [hXw]; exact (Bq.new w _ 26).kept (((Kept.refl _).alloc _ _).alloc _ _)
  have hM : Bq X (w.heap.size + 1) [.int .i64 0, .int .i64 0, .int .i64 0, .slice none 0 0] := by
    have := (Bq.new (w.alloc (.cells (sl8 r c n (.slice a L.length p) r' c' n' (.slice a' L'.length p')).toArray 26)) [.int .i64 0, .int .i64 0, .int .i64 0, .slice none 0 0] 24).kept ((Kept.refl _).alloc #[.int .i64 0, .int .i64 0, .int .i64 0, .slice none 0 0] 24)
    rw [hXw]; simpa using this
  have hN : Bq X (w.heap.size + 2) [.int .i64 0, .int .i64 0, .int .i64 0, .slice none 0 0] := by
    have := Bq.new ((w.alloc (.cells (sl8 r c n (.slice a L.length p) r' c' n' (.slice a' L'.length p')).toArray 26)).alloc (.cells #[.int .i64 0, .int .i64 0, .int .i64 0, .slice none 0 0] 24)) [.int .i64 0, .int .i64 0, .int .i64 0, .slice none 0 0] 24
    rw [hXw]; simpa using this
  go_enter Try.func8, Try.ntmps8
  go_upto_region 1 with fail
  rw [← hXw]
  clear hXw
  obtain ⟨B1, hB1⟩ : ∃ B, B = w.heap.size + 1 := ⟨_, rfl⟩
  obtain ⟨B2, hB2⟩ : ∃ B, B = w.heap.size + 2 := ⟨_, rfl⟩
  rw [← hB1] at hM
  rw [← hB2] at hN
  rw [show w.heap.size + 1 + 1 = B2 from hB2.symm, ← hB1]
  have HXS := hidq (And.intro hXs (And.intro hB1 hB2))
  clear hXs hB1 hB2
  have c0 := hB.c 0 _ rfl
  have c1 := hB.c 1 _ rfl
  have c2 := hB.c 2 _ rfl
  have c3 := hB.c 3 _ rfl
  have c4 := hB.c 4 _ rfl
  have c5 := hB.c 5 _ rfl
  have c6 := hB.c 6 _ rfl
  have c7 := hB.c 7 _ rfl
  have kZ : Kept X (X.alloc (.cells #[.int .i64 row] 3)) := (Kept.refl X).alloc _ _
  have zR : Reads (X.alloc (.cells #[.int .i64 row] 3)) X.heap.size 0 [row] := fun i hi => by
    obtain rfl : i = 0 := by simpa using hi
    simp [go_sem]
  have zs : (X.alloc (.cells #[.int .i64 row] 3)).heap.size = X.heap.size + 1 := by simp
  have HZ := hidq (And.intro (hK.trans kZ).below (And.intro (show X.heap.size < (X.alloc (.cells #[.int .i64 row] 3)).heap.size from by rw [zs]; exact Nat.lt_succ_self _) zR))
  have HKZ := hidq (And.intro hK (And.intro kZ zs))
  clear kZ zR zs hK
  go_upto_region 2 with (first | (go_at_call 13; refine (KP.out _ _ HZ.out.1 HZ.out.2.1 HZ.out.2.2).mono ?_; rintro e w1 ⟨q, m, cc, cc', nn, a1, p1, kl, a1', p1', kl', rfl, HPS, b1⟩))
  clear c0 c1 c2 c3 c4 c5 c6 c7
  obtain ⟨hK, kZ, zs⟩ := HKZ.out
  obtain ⟨hXs, hB1, hB2⟩ := HXS.out
  obtain ⟨K, K', hkl, hkl', hPS, hSR⟩ := HPS.out
  have hM1 := bq_below (hM.kept kZ) b1
  have hN1 := bq_below (hN.kept kZ) b1
  have hb1 : Below w.heap.size w w1 := (hK.trans kZ).below.trans (b1.mono (hK.trans kZ).below.size)
  have hs1 := b1.size
  rw [zs] at hSR hs1
  clear hB hM hN hK kZ KP b1 HZ HKZ HPS
  have kY : Kept w1 (w1.alloc (.cells (sl8 m cc nn (.slice a1 kl p1) m cc' nn (.slice a1' kl' p1')).toArray 26)) := (Kept.refl w1).alloc _ _
  have hG := Bq.new w1 (sl8 m cc nn (.slice a1 kl p1) m cc' nn (.slice a1' kl' p1')) 26
  obtain ⟨Y, hYw⟩ : ∃ Y, Y = w1.alloc (.cells (sl8 m cc nn (.slice a1 kl p1) m cc' nn (.slice a1' kl' p1')).toArray 26) := ⟨_, rfl⟩
  obtain ⟨G, hGw⟩ : ∃ G, G = w1.heap.size := ⟨_, rfl⟩
  rw [← hYw] at kY hG
  rw [← hGw] at hG ⊢
  rw [show w1.alloc (.cells #[.int .i64 m, .int .i64 cc, .int .i64 nn, .slice a1 kl p1, .int .i64 m, .int .i64 cc', .int .i64 nn, .slice a1' kl' p1'] 26) = Y from hYw.symm]
  have hM2 := hM1.kept kY
  have hN2 := hN1.kept kY
  have hb2 : Below w.heap.size w Y := hb1.trans (kY.below.mono hb1.size)
  have hSR2 := hSR.below kY.below
  have hwG : w.heap.size + 4 ≤ G := by omega
  clear hYw hM1 hN1 hb1 hSR kY hGw hs1 zs
  have HE := hidq (show RA r c n L r' c' n' L' [row] w.heap.size (.returned (.tuple #[.agg #[.int .i64 m, .int .i64 cc, .int .i64 nn, .slice a1 kl p1], .agg #[.int .i64 m, .int .i64 cc', .int .i64 nn, .slice a1' kl' p1'], .int .i64 q])) (st4w (st4w Y.drew B1 (.int .i64 m) (.int .i64 cc) (.int .i64 nn) (.slice a1 kl p1)) B2 (.int .i64 m) (.int .i64 cc') (.int .i64 nn) (.slice a1' kl' p1')) from
    ⟨q, m, cc, cc', nn, a1, p1, K, a1', p1', K', by rw [hkl, hkl'], hPS, (st4_sr (st4_sr (hSR2.below (Kept.refl Y).drew.below) (by omega) _ _ _ _) (by omega) _ _ _ _).mono (by omega)⟩)
  clear hPS hSR2 hkl hkl'
  have HG := hidq hG
  clear hXs HXS
  have HBB := hidq (And.intro hwG (And.intro hB1 hB2))
  clear hwG hB1 hB2
  have HS : Hid (∀ u, Kept Y u → u.cell? ⟨G, 0, none⟩ = some (.int .i64 m) ∧ u.cell? ⟨G, 1, none⟩ = some (.int .i64 cc) ∧ u.cell? ⟨G, 2, none⟩ = some (.int .i64 nn) ∧ u.cell? ⟨G, 3, none⟩ = some (.slice a1 kl p1) ∧ u.cell? ⟨G, 4, none⟩ = some (.int .i64 m) ∧ u.cell? ⟨G, 5, none⟩ = some (.int .i64 cc') ∧ u.cell? ⟨G, 6, none⟩ = some (.int .i64 nn) ∧ u.cell? ⟨G, 7, none⟩ = some (.slice a1' kl' p1')) := fun u k => ⟨(HG.out.kept k).c 0 _ rfl, (HG.out.kept k).c 1 _ rfl, (HG.out.kept k).c 2 _ rfl, (HG.out.kept k).c 3 _ rfl, (HG.out.kept k).c 4 _ rfl, (HG.out.kept k).c 5 _ rfl, (HG.out.kept k).c 6 _ rfl, (HG.out.kept k).c 7 _ rfl⟩
  clear hG
  refine wp_region_lateT [5, 6, 7] (fun _ => True) (fun u => u.cell? ⟨G, 0, none⟩ = some (.int .i64 m) ∧ u.cell? ⟨G, 1, none⟩ = some (.int .i64 cc) ∧ u.cell? ⟨G, 2, none⟩ = some (.int .i64 nn) ∧ u.cell? ⟨G, 3, none⟩ = some (.slice a1 kl p1) ∧ u.cell? ⟨G, 4, none⟩ = some (.int .i64 m) ∧ u.cell? ⟨G, 5, none⟩ = some (.int .i64 cc') ∧ u.cell? ⟨G, 6, none⟩ = some (.int .i64 nn) ∧ u.cell? ⟨G, 7, none⟩ = some (.slice a1' kl' p1')) (by kernel_rfl) trivial (HS.out _ (Kept.refl Y).drew) (fun _ hHeld => ?_)
  obtain ⟨Y0, hY0⟩ : ∃ Y0, Y0 = Y.drew := ⟨_, rfl⟩
  have hb3 := hb2.drew
  have kY0 : Kept Y Y0 := by rw [hY0]; exact (Kept.refl Y).drew
  have HG0 := HG.out.kept kY0
  rw [← hY0] at hHeld HE hb3 ⊢
  clear hY0 hb2
  refine wpAnyT_take2 (i := 0) (v := ?_) rfl (by kernel_rfl) (by kernel_rfl) (by kernel_rfl) (by kernel_rfl) (fun _ _ _ h => h) (Or.inl ⟨by rfl, ?hya0⟩) (fun _ => trivial) hHeld ?_
  case hya0 => (intro w hSw; (try dsimp only at hSw); go_simp; try (with_reducible rfl))
  (try simp only [Act.put, List.getElem_toArray, List.getElem_cons_succ, List.getElem_cons_zero, List.setIfInBounds_toArray, List.set_cons_zero, List.set_cons_succ])
  refine wpAnyT_take2 (i := 1) (v := ?_) rfl (by kernel_rfl) (by kernel_rfl) (by kernel_rfl) (by kernel_rfl) (fun _ _ _ h => h) (Or.inl ⟨by rfl, ?hya1⟩) (fun _ => trivial) hHeld ?_
  case hya1 => (intro w hSw; (try dsimp only at hSw); go_simp; try (with_reducible rfl))
  (try simp only [Act.put, List.getElem_toArray, List.getElem_cons_succ, List.getElem_cons_zero, List.setIfInBounds_toArray, List.set_cons_zero, List.set_cons_succ])
  refine wpAnyT_take2 (i := 2) (v := ?_) rfl (by kernel_rfl) (by kernel_rfl) (by kernel_rfl) (by kernel_rfl) (fun _ _ _ h => h) (Or.inl ⟨by rfl, ?hya2⟩) (fun _ => trivial) hHeld ?_
  case hya2 => (intro w hSw; (try dsimp only at hSw); go_simp; try (with_reducible rfl))
  (try simp only [Act.put, List.getElem_toArray, List.getElem_cons_succ, List.getElem_cons_zero, List.setIfInBounds_toArray, List.set_cons_zero, List.set_cons_succ])
  refine wpAnyT_take2 (i := 3) (v := ?_) rfl (by kernel_rfl) (by kernel_rfl) (by kernel_rfl) (by kernel_rfl) (fun _ _ _ h => h) (Or.inl ⟨by rfl, ?hya3⟩) (fun _ => trivial) hHeld ?_
  case hya3 => (intro w hSw; (try dsimp only at hSw); go_simp; try (with_reducible rfl))
  (try simp only [Act.put, List.getElem_toArray, List.getElem_cons_succ, List.getElem_cons_zero, List.setIfInBounds_toArray, List.set_cons_zero, List.set_cons_succ])
  refine wpAnyT_take2 (i := 4) (v := ?_) rfl (by kernel_rfl) (by kernel_rfl) (by kernel_rfl) (by kernel_rfl) (fun _ _ _ h => h) (Or.inl ⟨by rfl, ?hya4⟩) (fun _ => trivial) hHeld ?_
  case hya4 => (intro w hSw; (try dsimp only at hSw); go_simp; try (with_reducible rfl))
  (try simp only [Act.put, List.getElem_toArray, List.getElem_cons_succ, List.getElem_cons_zero, List.setIfInBounds_toArray, List.set_cons_zero, List.set_cons_succ])
  have hM3 := hM2.kept kY0
  have hN3 := hN2.kept kY0
  have d0 := hM3.c 0 _ rfl
  have d1 := hM3.c 1 _ rfl
  have d2 := hM3.c 2 _ rfl
  have d3 := hM3.c 3 _ rfl
  have fz := hM3.fz
  have hG4 := st4_far (B := B1) HG0 (by have := HBB.out; omega) (.int .i64 m) (.int .i64 cc) (.int .i64 nn) (.slice a1 kl p1)
  refine wpAnyT_late (i := 5) (by kernel_rfl) rfl (by kernel_rfl) (fun K hK9 => ?_)
  go_simp
  refine hK9.out _ _ (⟨hG4.c 0 _ rfl, hG4.c 1 _ rfl, hG4.c 2 _ rfl, hG4.c 3 _ rfl, hG4.c 4 _ rfl, hG4.c 5 _ rfl, hG4.c 6 _ rfl, hG4.c 7 _ rfl⟩) (fun hH1 => ?_)
  clear hK9 K
  (try simp only [Act.put, List.getElem_toArray, List.getElem_cons_succ, List.getElem_cons_zero, List.setIfInBounds_toArray, List.set_cons_zero, List.set_cons_succ])
  have hM4 := st4 Y0 B1 _ rfl hM3 (.int .i64 m) (.int .i64 cc) (.int .i64 nn) (.slice a1 kl p1)
  have hN4 := st4_far (B := B1) hN3 (by have := HBB.out; omega) (.int .i64 m) (.int .i64 cc) (.int .i64 nn) (.slice a1 kl p1)
  have hb4 := st4_below (B := B1) hb3 (by have := HBB.out; omega) (.int .i64 m) (.int .i64 cc) (.int .i64 nn) (.slice a1 kl p1)
  clear d0 d1 d2 d3 fz hM3 hN3 hM2 hN2
  obtain ⟨Y1, hY1⟩ : ∃ Y1, Y1 = st4w Y0 B1 (.int .i64 m) (.int .i64 cc) (.int .i64 nn) (.slice a1 kl p1) := ⟨_, rfl⟩
  rw [← hY1] at hM4 hN4 hb4 HE hG4
  rw [show (((Y0.setCell ⟨B1, 0, none⟩ (.int .i64 m)).setCell ⟨B1, 1, none⟩ (.int .i64 cc)).setCell ⟨B1, 2, none⟩ (.int .i64 nn)).setCell ⟨B1, 3, none⟩ (.slice a1 kl p1) = Y1 from hY1.symm]
  clear hY1 hHeld hH1
  have d0 := hN4.c 0 _ rfl
  have d1 := hN4.c 1 _ rfl
  have d2 := hN4.c 2 _ rfl
  have d3 := hN4.c 3 _ rfl
  have fz := hN4.fz
  have hG5 := st4_far (B := B2) hG4 (by have := HBB.out; omega) (.int .i64 m) (.int .i64 cc') (.int .i64 nn) (.slice a1' kl' p1')
  refine wpAnyT_late (i := 6) (by kernel_rfl) rfl (by kernel_rfl) (fun K hK9 => ?_)
  go_simp
  refine hK9.out _ _ (⟨hG5.c 0 _ rfl, hG5.c 1 _ rfl, hG5.c 2 _ rfl, hG5.c 3 _ rfl, hG5.c 4 _ rfl, hG5.c 5 _ rfl, hG5.c 6 _ rfl, hG5.c 7 _ rfl⟩) (fun hH2 => ?_)
  clear hK9 K
  (try simp only [Act.put, List.getElem_toArray, List.getElem_cons_succ, List.getElem_cons_zero, List.setIfInBounds_toArray, List.set_cons_zero, List.set_cons_succ])
  refine wpAnyT_late (i := 7) (by kernel_rfl) rfl (by kernel_rfl) (fun K hK9 => ?_)
  go_simp
  refine hK9.out _ _ (⟨hG5.c 0 _ rfl, hG5.c 1 _ rfl, hG5.c 2 _ rfl, hG5.c 3 _ rfl, hG5.c 4 _ rfl, hG5.c 5 _ rfl, hG5.c 6 _ rfl, hG5.c 7 _ rfl⟩) (fun hH3 => ?_)
  clear hK9 K
  (try simp only [Act.put, List.getElem_toArray, List.getElem_cons_succ, List.getElem_cons_zero, List.setIfInBounds_toArray, List.set_cons_zero, List.set_cons_succ])
  refine wpAnyT_done (by kernel_rfl) ?_ _
  (try simp only [Act.put, List.getElem_toArray, List.getElem_cons_succ, List.getElem_cons_zero, List.setIfInBounds_toArray, List.set_cons_zero, List.set_cons_succ])
  have hN5 := st4 Y1 B2 _ rfl hN4 (.int .i64 m) (.int .i64 cc') (.int .i64 nn) (.slice a1' kl' p1')
  have hM5 := st4_far (B := B2) hM4 (by have := HBB.out; omega) (.int .i64 m) (.int .i64 cc') (.int .i64 nn) (.slice a1' kl' p1')
  have x0 := hM5.c 0 _ rfl
  have x1 := hM5.c 1 _ rfl
  have x2 := hM5.c 2 _ rfl
  have x3 := hM5.c 3 _ rfl
  have y0 := hN5.c 0 _ rfl
  have y1 := hN5.c 1 _ rfl
  have y2 := hN5.c 2 _ rfl
  have y3 := hN5.c 3 _ rfl
  go_wp2_with fail
  exact bodyPost_ret (v := .tuple #[.agg #[.int .i64 m, .int .i64 cc, .int .i64 nn, .slice a1 kl p1], .agg #[.int .i64 m, .int .i64 cc', .int .i64 nn, .slice a1' kl' p1'], .int .i64 q]) (by simp [results, Try.f8, go_sem, x0, x1, x2, x3, y0, y1, y2, y3]) rfl ⟨HE.out, st4_below hb4 (by have := HBB.out; omega) _ _ _ _⟩
end Go.Proofs.Ytcjgdfnbjbboeaa
