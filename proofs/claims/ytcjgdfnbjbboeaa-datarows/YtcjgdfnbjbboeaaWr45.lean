/- Pick's answer of any set; whether two matrices are the same. -/
import Derived.Test.YtcjgdfnbjbboeaaWr44
namespace Go.Proofs.Ytcjgdfnbjbboeaa
open Go.ChangeShapes Go.WideShapes Go.ChangeAt Go.RowKit
set_option linter.unusedVariables false
set_option linter.unusedSimpArgs false

theorem sl_ad {w : World} {a : Option Addr} {l p : Nat} {L : List Int} (h : Sl w (.slice a l p) L) (hne : L ≠ []) : ∃ b off, a = some ⟨b, off, none⟩ ∧ b < w.heap.size ∧ Reads w b off L := by
  obtain ⟨ao, cap, e, h1, h2, h3⟩ := h
  cases e
  exact h3 hne
theorem sl_cap {w : World} {a : Option Addr} {l p : Nat} {L : List Int} (h : Sl w (.slice a l p) L) : l ≤ p ∧ p ≤ maxLen := by
  obtain ⟨ao, cap, e, h1, h2, h3⟩ := h
  cases e
  exact ⟨h1, h2⟩

set_option maxHeartbeats 4000000 in
set_option maxRecDepth 100000 in
theorem sameM_any (rows cols wd : Int) (L : List Int) (hN : L.length ≤ 100000) (a : Option Addr) (p : Nat) (b : Option Addr) (q : Nat) (w : World) (hA : Sl w (.slice a L.length p) L) (hB : Sl w (.slice b L.length q) L) : Calls Try.prog 11 #[.agg #[.int .i64 rows, .int .i64 cols, .int .i64 wd, .slice a L.length p], .agg #[.int .i64 rows, .int .i64 cols, .int .i64 wd, .slice b L.length q]] w fun e w' => e = .returned (.bool true) ∧ Kept w w' := by
  have n1 : (rows != rows) = false := by simp
  have n2 : (cols != cols) = false := by simp
  have n3 : (wd != wd) = false := by simp
  obtain ⟨X, hX⟩ : ∃ X, X = (w.alloc (.cells #[.int .i64 rows, .int .i64 cols, .int .i64 wd, .slice a L.length p] 24)).alloc (.cells #[.int .i64 rows, .int .i64 cols, .int .i64 wd, .slice b L.length q] 24) := ⟨_, rfl⟩
  have hK : Kept w X := by rw [hX]; exact ((Kept.refl w).alloc _ _).alloc _ _
  have hP0 : Bq X w.heap.size [.int .i64 rows, .int .i64 cols, .int .i64 wd, .slice a L.length p] := by rw [hX]; exact (Bq.new w _ 24).kept ((Kept.refl _).alloc _ _)
  have hP1 : Bq X (w.heap.size + 1) [.int .i64 rows, .int .i64 cols, .int .i64 wd, .slice b L.length q] := by
    have := Bq.new (w.alloc (.cells #[.int .i64 rows, .int .i64 cols, .int .i64 wd, .slice a L.length p] 24)) [.int .i64 rows, .int .i64 cols, .int .i64 wd, .slice b L.length q] 24
    rw [hX]; simpa using this
  have HA := hidq (hA.kept hK)
  have HB := hidq (hB.kept hK)
  clear hA hB
  obtain ⟨N, hNN⟩ : ∃ N, L.length = N := ⟨_, rfl⟩
  have n4 : ((N : Int) != (N : Int)) = false := by simp
  rw [hNN] at hX HA HB hP0 hP1 hN ⊢
  have HL := hidq hNN
  clear hNN
  obtain ⟨B0, hB0⟩ : ∃ B, B = w.heap.size := ⟨_, rfl⟩
  go_enter Try.func11, Try.ntmps11
  go_upto_region 1 with fail
  rw [← hX]
  rw [← hB0] at hP0 hP1 ⊢
  clear hX hB0
  have HP0 := hidq hP0
  have HP1 := hidq hP1
  have p0 := hP0.c 0 _ rfl
  have p1 := hP0.c 1 _ rfl
  have p2 := hP0.c 2 _ rfl
  have p3 := hP0.c 3 _ rfl
  have r0 := hP1.c 0 _ rfl
  have r1 := hP1.c 1 _ rfl
  have r2 := hP1.c 2 _ rfl
  have r3 := hP1.c 3 _ rfl
  clear hP0 hP1
  go_wp2_with fail
  clear p0 p1 p2 p3 r0 r1 r2 r3
  go_loopw [5] (fun i wr => ∃ k : Nat, k ≤ N ∧ i = .int .i64 k ∧ Kept X wr) (fun i _ => N - (intOf i).toNat)
  case atStart => exact ⟨0, Nat.zero_le _, rfl, Kept.refl X⟩
  case round =>
    obtain ⟨k, hkN, rfl, hk⟩ := hrel
    have p3 := (HP0.out.kept hk).c 3 _ rfl
    have r3 := (HP1.out.kept hk).c 3 _ rfl
    by_cases hlt : k < N
    · have hne : L ≠ [] := fun e => by have := HL.out; rw [e] at this; simp at this; omega
      obtain ⟨ga, oa, rfl, hga, hra⟩ := sl_ad HA.out hne
      obtain ⟨gb, ob, rfl, hgb, hrb⟩ := sl_ad HB.out hne
      have s1 := (hk.below.cell (p := ⟨ga, oa + k, none⟩) hga).trans (hra k (by rw [HL.out]; exact hlt))
      have s2 := (hk.below.cell (p := ⟨gb, ob + k, none⟩) hgb).trans (hrb k (by rw [HL.out]; exact hlt))
      obtain ⟨x, hx⟩ : ∃ x, L.getD k 0 = x := ⟨_, rfl⟩
      rw [hx] at s1 s2
      have n5 : (x != x) = false := by simp
      have b4 : (k : Int) < (N : Int) := by omega
      have z1 : IntKind.i64.wrap ((k : Int) + 1) = (k : Int) + 1 := by rw [wrap_i64]; omega
      have HS : Hid (∀ u, Kept wr u → u.cell? ⟨B0, 3, none⟩ = some (.slice (some ⟨ga, oa, none⟩) N p) ∧ u.cell? ⟨B0 + 1, 3, none⟩ = some (.slice (some ⟨gb, ob, none⟩) N q) ∧ u.cell? ⟨ga, oa + k, none⟩ = some (.int .i64 x) ∧ u.cell? ⟨gb, ob + k, none⟩ = some (.int .i64 x)) := fun u m => ⟨((HP0.out.kept hk).kept m).c 3 _ rfl, ((HP1.out.kept hk).kept m).c 3 _ rfl, (m.below.cell (p := ⟨ga, oa + k, none⟩) (Nat.lt_of_lt_of_le hga hk.below.size)).trans s1, (m.below.cell (p := ⟨gb, ob + k, none⟩) (Nat.lt_of_lt_of_le hgb hk.below.size)).trans s2⟩
      clear hra hrb hx r3
      go_upto_region 6 with fail
      clear p3 s1 s2
      refine wp_region_late [] (fun u => u.cell? ⟨B0, 3, none⟩ = some (.slice (some ⟨ga, oa, none⟩) N p) ∧ u.cell? ⟨B0 + 1, 3, none⟩ = some (.slice (some ⟨gb, ob, none⟩) N q) ∧ u.cell? ⟨ga, oa + k, none⟩ = some (.int .i64 x) ∧ u.cell? ⟨gb, ob + k, none⟩ = some (.int .i64 x)) (by kernel_rfl) (HS.out _ (Kept.refl wr).drew) (fun hHeld => ?_)
      refine wpAnyD_take (i := 0) (v := ?_) rfl (by kernel_rfl) (by kernel_rfl) (by kernel_rfl) (by kernel_rfl) (fun _ _ _ h => h) (Or.inl ⟨by rfl, ?hya0⟩) hHeld ?_
      case hya0 => (intro w hSw; (try dsimp only at hSw); go_simp; try (with_reducible rfl))
      (try simp only [Act.put, List.getElem_toArray, List.getElem_cons_succ, List.getElem_cons_zero, List.setIfInBounds_toArray, List.set_cons_zero, List.set_cons_succ])
      refine wpAnyD_take (i := 1) (v := ?_) rfl (by kernel_rfl) (by kernel_rfl) (by kernel_rfl) (by kernel_rfl) (fun _ _ _ h => h) (Or.inl ⟨by rfl, ?hya1⟩) hHeld ?_
      case hya1 => (intro w hSw; (try dsimp only at hSw); go_simp; try (with_reducible rfl))
      (try simp only [Act.put, List.getElem_toArray, List.getElem_cons_succ, List.getElem_cons_zero, List.setIfInBounds_toArray, List.set_cons_zero, List.set_cons_succ])
      refine wpAnyD_take (i := 2) (v := ?_) rfl (by kernel_rfl) (by kernel_rfl) (by kernel_rfl) (by kernel_rfl) (fun _ _ _ h => h) (Or.inl ⟨by rfl, ?hya2⟩) hHeld ?_
      case hya2 => (intro w hSw; (try dsimp only at hSw); go_simp; try (with_reducible rfl))
      (try simp only [Act.put, List.getElem_toArray, List.getElem_cons_succ, List.getElem_cons_zero, List.setIfInBounds_toArray, List.set_cons_zero, List.set_cons_succ])
      refine wpAnyD_take (i := 3) (v := ?_) rfl (by kernel_rfl) (by kernel_rfl) (by kernel_rfl) (by kernel_rfl) (fun _ _ _ h => h) (Or.inl ⟨by rfl, ?hya3⟩) hHeld ?_
      case hya3 => (intro w hSw; (try dsimp only at hSw); go_simp; try (with_reducible rfl))
      (try simp only [Act.put, List.getElem_toArray, List.getElem_cons_succ, List.getElem_cons_zero, List.setIfInBounds_toArray, List.set_cons_zero, List.set_cons_succ])
      refine wpAnyD_take (i := 4) (v := ?_) rfl (by kernel_rfl) (by kernel_rfl) (by kernel_rfl) (by kernel_rfl) (fun _ _ _ h => h) (Or.inl ⟨by rfl, ?hya4⟩) hHeld ?_
      case hya4 => (intro w hSw; (try dsimp only at hSw); go_simp; try (with_reducible rfl))
      (try simp only [Act.put, List.getElem_toArray, List.getElem_cons_succ, List.getElem_cons_zero, List.setIfInBounds_toArray, List.set_cons_zero, List.set_cons_succ])
      refine wpAnyD_take (i := 5) (v := ?_) rfl (by kernel_rfl) (by kernel_rfl) (by kernel_rfl) (by kernel_rfl) (fun _ _ _ h => h) (Or.inl ⟨by rfl, ?hya5⟩) hHeld ?_
      case hya5 => (intro w hSw; (try dsimp only at hSw); go_simp; try (with_reducible rfl))
      (try simp only [Act.put, List.getElem_toArray, List.getElem_cons_succ, List.getElem_cons_zero, List.setIfInBounds_toArray, List.set_cons_zero, List.set_cons_succ])
      refine wpAnyD_take (i := 6) (v := ?_) rfl (by kernel_rfl) (by kernel_rfl) (by kernel_rfl) (by kernel_rfl) (fun _ _ _ h => h) (Or.inl ⟨by rfl, ?hya6⟩) hHeld ?_
      case hya6 => (intro w hSw; (try dsimp only at hSw); go_simp; try (with_reducible rfl))
      (try simp only [Act.put, List.getElem_toArray, List.getElem_cons_succ, List.getElem_cons_zero, List.setIfInBounds_toArray, List.set_cons_zero, List.set_cons_succ])
      refine wpAnyD_take (i := 7) (v := ?_) rfl (by kernel_rfl) (by kernel_rfl) (by kernel_rfl) (by kernel_rfl) (fun _ _ _ h => h) (Or.inl ⟨by rfl, ?hya7⟩) hHeld ?_
      case hya7 => (intro w hSw; (try dsimp only at hSw); go_simp; try (with_reducible rfl))
      (try simp only [Act.put, List.getElem_toArray, List.getElem_cons_succ, List.getElem_cons_zero, List.setIfInBounds_toArray, List.set_cons_zero, List.set_cons_succ])
      refine wpAnyD_take (i := 8) (v := ?_) rfl (by kernel_rfl) (by kernel_rfl) (by kernel_rfl) (by kernel_rfl) (fun _ _ _ h => h) (Or.inl ⟨by rfl, ?hya8⟩) hHeld ?_
      case hya8 => (intro w hSw; (try dsimp only at hSw); go_simp; try (with_reducible rfl))
      (try simp only [Act.put, List.getElem_toArray, List.getElem_cons_succ, List.getElem_cons_zero, List.setIfInBounds_toArray, List.set_cons_zero, List.set_cons_succ])
      refine wpAnyD_take (i := 9) (v := ?_) rfl (by kernel_rfl) (by kernel_rfl) (by kernel_rfl) (by kernel_rfl) (fun _ _ _ h => h) (Or.inl ⟨by rfl, ?hya9⟩) hHeld ?_
      case hya9 => (intro w hSw; (try dsimp only at hSw); go_simp; try (with_reducible rfl))
      (try simp only [Act.put, List.getElem_toArray, List.getElem_cons_succ, List.getElem_cons_zero, List.setIfInBounds_toArray, List.set_cons_zero, List.set_cons_succ])
      refine wpAnyD_take (i := 10) (v := ?_) rfl (by kernel_rfl) (by kernel_rfl) (by kernel_rfl) (by kernel_rfl) (fun _ _ _ h => h) (Or.inl ⟨by rfl, ?hya10⟩) hHeld ?_
      case hya10 => (intro w hSw; (try dsimp only at hSw); go_simp; try (with_reducible rfl))
      (try simp only [Act.put, List.getElem_toArray, List.getElem_cons_succ, List.getElem_cons_zero, List.setIfInBounds_toArray, List.set_cons_zero, List.set_cons_succ])
      refine wpAnyD_done (by kernel_rfl) ?_ _
      (try simp only [Act.put, List.getElem_toArray, List.getElem_cons_succ, List.getElem_cons_zero, List.setIfInBounds_toArray, List.set_cons_zero, List.set_cons_succ])
      go_wp2_with fail
      go_roundw
      case rel => exact ⟨k + 1, by omega, by go_num, hk.trans (Kept.refl wr).drew⟩
      case measure => simp [intOf]; omega
    · obtain rfl : k = N := by omega
      have b4 : ¬ (k : Int) < (k : Int) := by omega
      go_wp2_with fail
      go_ret
      exact ⟨rfl, hK.trans hk⟩

/-- nothing -/
def Z7 (m cc cc' nn : Int) (K K' : List Int) : Prop := m = 0 ∧ cc = 0 ∧ cc' = 0 ∧ nn = 0 ∧ K = [] ∧ K' = []
/-- what is picked out of a set -/
def PS (r c n : Int) (L : List Int) (r' c' n' : Int) (L' : List Int) (J : List Int) (q m cc cc' nn : Int) (K K' : List Int) : Prop := ∃ x q0, DAns r c n L r' c' n' L' x q0 ∧
  ((q0 ≠ 0 ∧ q = q0 ∧ Z7 m cc cc' nn K K') ∨ (q0 = 0 ∧ J.length = 0 ∧ q = 41 ∧ Z7 m cc cc' nn K K') ∨ (q0 = 0 ∧ 0 < J.length ∧ ¬ Jin r.toNat J ∧ q = 40 ∧ Z7 m cc cc' nn K K') ∨ (q0 = 0 ∧ 0 < J.length ∧ Jin r.toNat J ∧ 4096 / max c.toNat c'.toNat < J.length ∧ q = 2 ∧ Z7 m cc cc' nn K K') ∨
  (q0 = 0 ∧ 0 < J.length ∧ Jin r.toNat J ∧ J.length ≤ 4096 / max c.toNat c'.toNat ∧ q = 0 ∧ m = J.length ∧ cc = c ∧ cc' = c' ∧ nn = n ∧ K = pkl L c.toNat J ∧ K' = pkl L' c'.toNat J))
theorem PS.uniq {r c n : Int} {L : List Int} {r' c' n' : Int} {L' J : List Int} {q m cc cc' nn : Int} {K K' : List Int} {q2 m2 cd cd' nd : Int} {K2 K2' : List Int} (h : PS r c n L r' c' n' L' J q m cc cc' nn K K') (h' : PS r c n L r' c' n' L' J q2 m2 cd cd' nd K2 K2') : q = q2 ∧ m = m2 ∧ cc = cd ∧ cc' = cd' ∧ nn = nd ∧ K = K2 ∧ K' = K2' := by
  obtain ⟨x, q0, d, h⟩ := h
  obtain ⟨x2, q02, d2, h'⟩ := h'
  obtain ⟨rfl, rfl⟩ := d.uniq d2
  clear d d2
  unfold Z7 at h h'
  rcases h with ⟨a1, rfl, rfl, rfl, rfl, rfl, rfl, rfl⟩ | ⟨a1, a2, rfl, rfl, rfl, rfl, rfl, rfl, rfl⟩ | ⟨a1, a2, a3, rfl, rfl, rfl, rfl, rfl, rfl, rfl⟩ | ⟨a1, a2, a3, a4, rfl, rfl, rfl, rfl, rfl, rfl, rfl⟩ | ⟨a1, a2, a3, a4, rfl, rfl, rfl, rfl, rfl, rfl, rfl⟩ <;>
  rcases h' with ⟨b1, rfl, rfl, rfl, rfl, rfl, rfl, rfl⟩ | ⟨b1, b2, rfl, rfl, rfl, rfl, rfl, rfl, rfl⟩ | ⟨b1, b2, b3, rfl, rfl, rfl, rfl, rfl, rfl, rfl⟩ | ⟨b1, b2, b3, b4, rfl, rfl, rfl, rfl, rfl, rfl, rfl⟩ | ⟨b1, b2, b3, b4, rfl, rfl, rfl, rfl, rfl, rfl, rfl⟩ <;>
  first | exact ⟨rfl, rfl, rfl, rfl, rfl, rfl, rfl⟩ | exact absurd b1 a1 | exact absurd a1 b1 | exact absurd b3 a3 | exact absurd a3 b3 | (exfalso; omega)

theorem ans_ex (R : Nat) (st : Nat → Int) : ∃ a e, Ans R st a e := by
  induction R with
  | zero => exact ⟨0, 0, .inr ⟨fun j hj => by omega, rfl, rfl⟩⟩
  | succ R ih =>
    obtain ⟨a, e, h⟩ := ih
    rcases h with ⟨k, h1, h2, h3, h4, h5⟩ | ⟨h1, -, -⟩
    · exact ⟨a, e, .inl ⟨k, by omega, h2, h3, h4, h5⟩⟩
    · by_cases hz : st R = 0
      · exact ⟨0, 0, .inr ⟨fun j hj => by
          by_cases e : j = R
          · rw [e]; exact hz
          · exact h1 j (by omega), rfl, rfl⟩⟩
      · exact ⟨R, st R, .inl ⟨R, by omega, h1, hz, rfl, rfl⟩⟩
theorem dans_ex (r c n : Int) (L : List Int) (r' c' n' : Int) (L' : List Int) : ∃ x q, DAns r c n L r' c' n' L' x q := by
  by_cases h : ckF r c n L r' c' n' L' = 0
  · obtain ⟨a, e, h1⟩ := ans_ex r.toNat (rwst L L' c.toNat c'.toNat n)
    exact ⟨a, e, .inr ⟨h, h1⟩⟩
  · exact ⟨0, _, .inl ⟨h, rfl, rfl⟩⟩
theorem dans_zero {r c n : Int} {L : List Int} {r' c' n' : Int} {L' : List Int} {x : Int} (h : DAns r c n L r' c' n' L' x 0) : ckF r c n L r' c' n' L' = 0 := by
  rcases h with ⟨h1, -, h2⟩ | ⟨h1, -⟩
  · exact absurd h2.symm h1
  · exact h1

/-- where what is answered lies -/
def SR (H : Nat) (w' : World) (a : Option Addr) (p : Nat) (K : List Int) (a' : Option Addr) (p' : Nat) (K' : List Int) : Prop := Ew w' a p K ∧ Ew w' a' p' K' ∧ (a = none → p = 0) ∧ (a' = none → p' = 0) ∧ K.length ≤ 4096 ∧ K'.length ≤ 4096 ∧ ∃ Hm, H ≤ Hm ∧ Hm ≤ w'.heap.size ∧ (∀ b ∈ eb a, H ≤ b ∧ b < Hm) ∧ ∀ b ∈ eb a', Hm ≤ b ∧ b < w'.heap.size
theorem SR.none {H : Nat} {w' : World} (h : H ≤ w'.heap.size) : SR H w' none 0 [] none 0 [] := ⟨.inl ⟨rfl, rfl⟩, .inl ⟨rfl, rfl⟩, fun _ => rfl, fun _ => rfl, by simp, by simp, H, Nat.le_refl _, h, fun b hb => by simp [eb] at hb, fun b hb => by simp [eb] at hb⟩
theorem SR.below {H : Nat} {w w' : World} {a : Option Addr} {p : Nat} {K : List Int} {a' : Option Addr} {p' : Nat} {K' : List Int} (h : SR H w a p K a' p' K') (k : Below w.heap.size w w') : SR H w' a p K a' p' K' := by
  obtain ⟨h1, h2, h3, h4, h5, h6, Hm, g1, g2, g3, g4⟩ := h
  exact ⟨h1.below k, h2.below k, h3, h4, h5, h6, Hm, g1, Nat.le_trans g2 k.size, g3, fun b hb => ⟨(g4 b hb).1, Nat.lt_of_lt_of_le (g4 b hb).2 k.size⟩⟩
/-- the answer of a Pick -/
def PA (r c n : Int) (L : List Int) (r' c' n' : Int) (L' J : List Int) (H : Nat) (e : Ending) (w' : World) : Prop := ∃ (q m cc cc' nn : Int) (a : Option Addr) (p : Nat) (K : List Int) (a' : Option Addr) (p' : Nat) (K' : List Int), e = .returned (.tuple #[sv8 m cc nn (.slice a K.length p) m cc' nn (.slice a' K'.length p'), .int .i64 q]) ∧ PS r c n L r' c' n' L' J q m cc cc' nn K K' ∧ SR H w' a p K a' p' K'

theorem pick_any (r c n : Int) (a : Option Addr) (p : Nat) (L : List Int) (r' c' n' : Int) (a' : Option Addr) (p' : Nat) (L' : List Int) (J : List Int) (hJ9 : J.length ≤ 9000) (ja : Option Addr) (jc : Nat) (w : World) (hX : Sl w (.slice a L.length p) L) (hY : Sl w (.slice a' L'.length p') L') (hJ : Sl w (.slice ja J.length jc) J) :
    Calls Try.prog 13 #[sv8 r c n (.slice a L.length p) r' c' n' (.slice a' L'.length p'), .slice ja J.length jc] w fun e w' => PA r c n L r' c' n' L' J w.heap.size e w' ∧ Below w.heap.size w w' := by
  obtain ⟨x, q0, hD⟩ := dans_ex r c n L r' c' n' L'
  have KC : Hid (∀ u, Kept w u → Calls Try.prog 30 #[sv8 r c n (.slice a L.length p) r' c' n' (.slice a' L'.length p')] u fun e w' => e = .returned (.tuple #[.int .i64 x, .int .i64 q0]) ∧ Below u.heap.size u w') := fun u k => (dcheck_any r c n a p L r' c' n' a' p' L' u (hX.kept k) (hY.kept k)).mono fun e w' ⟨x', q', h1, h2, h3⟩ => by
    obtain ⟨rfl, rfl⟩ := h2.uniq hD
    exact ⟨h1, h3⟩
  by_cases hq : q0 = 0
  · subst hq
    have hF := dans_zero hD
    obtain ⟨h1, h2, rfl, rfl⟩ := ckf_parts hF
    obtain ⟨R, C, rfl, rfl, hR, hC, hRC, hl, hn, ha⟩ := ck_form _ _ _ _ h1
    obtain ⟨R', C', e1, rfl, hR', hC', hRC', hl', hn', ha'⟩ := ck_form _ _ _ _ h2
    obtain rfl : R = R' := by omega
    have hRCp : 0 < R * C := Nat.mul_pos hR hC
    have hRCp' : 0 < R * C' := Nat.mul_pos hR hC'
    obtain ⟨b, off, rfl, hb, hr⟩ := sl_ad hX (fun e => by rw [e] at hl; simp at hl; omega)
    obtain ⟨b', off', rfl, hb', hr'⟩ := sl_ad hY (fun e => by rw [e] at hl'; simp at hl'; omega)
    have hC4 : C ≤ 4096 := Nat.le_trans (Nat.le_mul_of_pos_left C hR) hRC
    have hC4' : C' ≤ 4096 := Nat.le_trans (Nat.le_mul_of_pos_left C' hR) hRC'
    have hj : 0 < J.length → ∃ jb jo, ja = some ⟨jb, jo, none⟩ ∧ jb < w.heap.size ∧ Reads w jb jo J := fun h => sl_ad hJ (fun e => by rw [e] at h; simp at h)
    refine (pick_v R C C' n L L' b off p b' off' p' L.length L'.length J J.length rfl hJ9 ja jc w hC hC' hC4 hC4' hj x KC (fun u k h1 h2 h3 => ?_) (fun u k h1 h2 h3 => ?_)).mono ?_
    · obtain ⟨jb, jo, rfl, hjb, hjr⟩ := hj h1
      exact picked_any R C J.length n hR hC hRC L hl J rfl h2 h1 h3 b off _ p hl (sl_cap hX).1 jb jo jc u (Nat.lt_of_lt_of_le hb k.size) (fun i hi => (k.cell (p := ⟨b, off + i, none⟩) hb).trans (hr i hi)) (Nat.lt_of_lt_of_le hjb k.size) (fun i hi => (k.cell (p := ⟨jb, jo + i, none⟩) hjb).trans (hjr i hi))
    · obtain ⟨jb, jo, rfl, hjb, hjr⟩ := hj h1
      exact picked_any R C' J.length n hR hC' hRC' L' hl' J rfl h2 h1 h3 b' off' _ p' hl' (sl_cap hY).1 jb jo jc u (Nat.lt_of_lt_of_le hb' k.size) (fun i hi => (k.cell (p := ⟨b', off' + i, none⟩) hb').trans (hr' i hi)) (Nat.lt_of_lt_of_le hjb k.size) (fun i hi => (k.cell (p := ⟨jb, jo + i, none⟩) hjb).trans (hjr i hi))
    · rintro e w' ⟨hp, hb2⟩
      refine ⟨?_, hb2⟩
      have hz : Z7 0 0 0 0 [] [] := ⟨rfl, rfl, rfl, rfl, rfl, rfl⟩
      rcases hp with ⟨hk, rfl⟩ | ⟨hk, hj2, rfl⟩ | ⟨hk, hj2, hlong, rfl⟩ | ⟨hk, hj2, hfit, g, g', rfl, hg, hgg, ho, ho'⟩
      · exact ⟨41, 0, 0, 0, 0, none, 0, [], none, 0, [], rfl, ⟨x, 0, hD, .inr (.inl ⟨rfl, hk, rfl, hz⟩)⟩, SR.none hb2.size⟩
      · exact ⟨40, 0, 0, 0, 0, none, 0, [], none, 0, [], rfl, ⟨x, 0, hD, .inr (.inr (.inl ⟨rfl, hk, hj2, rfl, hz⟩))⟩, SR.none hb2.size⟩
      · exact ⟨2, 0, 0, 0, 0, none, 0, [], none, 0, [], rfl, ⟨x, 0, hD, .inr (.inr (.inr (.inl ⟨rfl, hk, hj2, hlong, rfl, hz⟩)))⟩, SR.none hb2.size⟩
      · have e1 : (pkl L C J).length = J.length * C := by have := pkl_len R C L hl J hj2 J.length (Nat.le_refl _); rwa [List.take_length] at this
        have e2 : (pkl L' C' J).length = J.length * C' := by have := pkl_len R C' L' hl' J hj2 J.length (Nat.le_refl _); rwa [List.take_length] at this
        have hmx : J.length * max C C' ≤ 4096 := (Nat.le_div_iff_mul_le (by omega)).1 hfit
        have m1 : J.length * C ≤ J.length * max C C' := Nat.mul_le_mul_left _ (by omega)
        have m2 : J.length * C' ≤ J.length * max C C' := Nat.mul_le_mul_left _ (by omega)
        exact ⟨0, J.length, C, C', n, some ⟨g, 0, none⟩, J.length * C, pkl L C J, some ⟨g', 0, none⟩, J.length * C', pkl L' C' J, by rw [e1, e2], ⟨x, 0, hD, .inr (.inr (.inr (.inr ⟨rfl, hk, hj2, hfit, rfl, rfl, rfl, rfl, rfl, rfl, rfl⟩)))⟩, .inr ⟨g, rfl, ho⟩, .inr ⟨g', rfl, ho'⟩, fun h => by simp at h, fun h => by simp at h, by omega, by omega, g', by omega, Nat.le_of_lt ho'.lt, fun b hb => by simp [eb] at hb; omega, fun b hb => by simp [eb] at hb; rw [hb]; exact ⟨Nat.le_refl _, ho'.lt⟩⟩
  · refine (pick_e r c n a p L r' c' n' a' p' L' _ w x q0 hq KC).mono ?_
    rintro e w' ⟨rfl, hb⟩
    exact ⟨⟨q0, 0, 0, 0, 0, none, 0, [], none, 0, [], rfl, ⟨x, q0, hD, .inl ⟨hq, rfl, rfl, rfl, rfl, rfl, rfl, rfl⟩⟩, SR.none hb.size⟩, hb⟩
end Go.Proofs.Ytcjgdfnbjbboeaa
