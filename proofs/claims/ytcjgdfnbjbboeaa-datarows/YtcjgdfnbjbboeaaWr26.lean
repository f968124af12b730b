/- Check of package data: its parts. -/
import Derived.Test.YtcjgdfnbjbboeaaWr25
namespace Go.Proofs.Ytcjgdfnbjbboeaa
open Go.ChangeShapes Go.WideShapes Go.ChangeAt Go.RowKit
set_option linter.unusedVariables false
set_option linter.unusedSimpArgs false

theorem hidq {p : Prop} (h : p) : Hid p := h
/-- A block whose first cells are listed. -/
structure Bq (w : World) (b : Nat) (vs : List Value) : Prop where
  c : ∀ i v, vs[i]? = some v → w.cell? ⟨b, i, none⟩ = some v
  fz : ∀ o, w.frozen? ⟨b, o, none⟩ = false
  lt : b < w.heap.size
theorem Bq.new (w : World) (vs : List Value) (t : TypeId) : Bq (w.alloc (.cells vs.toArray t)) w.heap.size vs := by
  refine ⟨fun i v h => ?_, fun o => by simp [go_sem], by simp⟩
  rw [cell_of_row _ w.heap.size i vs.toArray t (0, 0) (heap_alloc_new w _)]
  simpa using h
theorem Bq.kept {w w' : World} {b : Nat} {vs : List Value} (h : Bq w b vs) (k : Kept w w') : Bq w' b vs :=
  ⟨fun i v e => (k.below.cell h.lt).trans (h.c i v e), fun o => (k.frozen _).trans (h.fz o), Nat.lt_of_lt_of_le h.lt k.below.size⟩
/-- what checkForm answers -/
def ckF (r c n : Int) (L : List Int) (r' c' n' : Int) (L' : List Int) : Int := if ckM r c n L ≠ 0 then ckM r c n L else if ckM r' c' n' L' ≠ 0 then ckM r' c' n' L' else if n ≠ n' then 3 else if r ≠ r' then 4 else 0
abbrev sv8 (r c n : Int) (s : Value) (r' c' n' : Int) (s' : Value) : Value := .agg #[.int .i64 r, .int .i64 c, .int .i64 n, s, .int .i64 r', .int .i64 c', .int .i64 n', s']
abbrev sl8 (r c n : Int) (s : Value) (r' c' n' : Int) (s' : Value) : List Value := [.int .i64 r, .int .i64 c, .int .i64 n, s, .int .i64 r', .int .i64 c', .int .i64 n', s']

set_option maxHeartbeats 4000000 in
set_option maxRecDepth 100000 in
theorem checkForm_any (r c n : Int) (a : Option Addr) (p : Nat) (L : List Int) (r' c' n' : Int) (a' : Option Addr) (p' : Nat) (L' : List Int) (w : World) (hX : Sl w (.slice a L.length p) L) (hY : Sl w (.slice a' L'.length p') L') :
    Calls Try.prog 70 #[sv8 r c n (.slice a L.length p) r' c' n' (.slice a' L'.length p')] w fun e w' => e = .returned (.int .i64 (ckF r c n L r' c' n' L')) ∧ Kept w w' := by
  have hK : Kept w (w.alloc (.cells (sl8 r c n (.slice a L.length p) r' c' n' (.slice a' L'.length p')).toArray 26)) := (Kept.refl w).alloc _ _
  have hB := Bq.new w (sl8 r c n (.slice a L.length p) r' c' n' (.slice a' L'.length p')) 26
  obtain ⟨X, hXw⟩ : ∃ X, X = w.alloc (.cells (sl8 r c n (.slice a L.length p) r' c' n' (.slice a' L'.length p')).toArray 26) := ⟨_, rfl⟩
  rw [← hXw] at hK hB
  have K1 : Hid (∀ u, Kept w u → Calls Try.prog 96 #[.agg #[.int .i64 r, .int .i64 c, .int .i64 n, .slice a L.length p]] u fun e w' => e = .returned (.int .i64 (ckM r c n L)) ∧ Kept u w') := fun u k => check_any r c n a p L u (hX.kept k)
  have K2 : Hid (∀ u, Kept w u → Calls Try.prog 96 #[.agg #[.int .i64 r', .int .i64 c', .int .i64 n', .slice a' L'.length p']] u fun e w' => e = .returned (.int .i64 (ckM r' c' n' L')) ∧ Kept u w') := fun u k => check_any r' c' n' a' p' L' u (hY.kept k)
  obtain ⟨F, hF⟩ : ∃ F, ckF r c n L r' c' n' L' = F := ⟨_, rfl⟩
  rw [hF]
  unfold ckF at hF
  generalize ckM r c n L = q at *
  generalize ckM r' c' n' L' = q' at *
  generalize L.length = l at *
  generalize L'.length = l' at *
  have HF := hidq hF
  clear hX hY hF
  go_enter Try.func70, Try.ntmps70
  go_upto_region 1 with fail
  rw [← hXw]
  clear hXw
  have c0 := hB.c 0 _ rfl
  have c1 := hB.c 1 _ rfl
  have c2 := hB.c 2 _ rfl
  have c3 := hB.c 3 _ rfl
  go_upto_region 2 with (first | (go_at_call 96; refine (K1.out _ hK).mono ?_; rintro e w1 ⟨rfl, k1⟩))
  clear c0 c1 c2 c3 K1
  have hB1 := hB.kept k1
  have hK1 := hK.trans k1
  clear hB hK k1
  by_cases hq : q = 0
  · have c4 := hB1.c 4 _ rfl
    have c5 := hB1.c 5 _ rfl
    have c6 := hB1.c 6 _ rfl
    have c7 := hB1.c 7 _ rfl
    subst hq
    go_upto_region 5 with (first | (go_at_call 96; refine (K2.out _ hK1).mono ?_; rintro e w2 ⟨rfl, k2⟩))
    clear c4 c5 c6 c7
    have hB2 := hB1.kept k2
    have hK2 := hK1.trans k2
    clear hB1 hK1 k2 K2
    by_cases hq' : q' = 0
    · subst hq'
      have c0 := hB2.c 0 _ rfl
      have c2 := hB2.c 2 _ rfl
      have c4 := hB2.c 4 _ rfl
      have c6 := hB2.c 6 _ rfl
      by_cases hn : n = n'
      · subst hn
        by_cases hr : r = r'
        · subst hr
          go_wp2
          go_ret
          exact ⟨by rw [← HF.out]; simp, hK2⟩
        · go_wp2
          go_ret
          exact ⟨by rw [← HF.out]; simp [hr], hK2⟩
      · go_wp2
        go_ret
        exact ⟨by rw [← HF.out]; simp [hn], hK2⟩
    · go_wp2
      go_ret
      exact ⟨by rw [← HF.out]; simp [hq'], hK2⟩
  · go_wp2
    go_ret
    exact ⟨by rw [← HF.out]; simp [hq], hK1⟩

set_option maxHeartbeats 1000000 in
theorem drowOf_any (R C k : Nat) (n : Int) (hk : k < R) (hC : 0 < C) (hRC : R * C ≤ 100000) (b off l cap : Nat) (hl : l = R * C) (hcap : l ≤ cap) (w : World) : Calls Try.prog 73 #[.agg #[.int .i64 R, .int .i64 C, .int .i64 n, .slice (some ⟨b, off, none⟩) l cap], .int .i64 k] w fun e w' => e = .returned (.agg #[.int .i64 1, .int .i64 C, .int .i64 n, .slice (some ⟨b, off + k * C, none⟩) C C]) ∧ Kept w w' := by
  have h1 : (k + 1) * C ≤ R * C := Nat.mul_le_mul_right _ hk
  have h2 : (k + 1) * C = k * C + C := by rw [Nat.succ_mul]
  obtain ⟨p, hp⟩ : ∃ p, k * C = p := ⟨_, rfl⟩
  have e1 : (k : Int) * (C : Int) = (p : Int) := by rw [← hp]; simp
  have e2 : ((k : Int) + 1) * (C : Int) = ((p + C : Nat) : Int) := by rw [← hp, ← h2]; simp
  have z0 : IntKind.i64.wrap ((k : Int) + 1) = (k : Int) + 1 := by
    rw [wrap_i64]
    have := Nat.le_mul_of_pos_right R hC
    omega
  have z1 : IntKind.i64.wrap ((k : Int) * (C : Int)) = (p : Int) := by rw [e1, wrap_i64]; omega
  have z2 : IntKind.i64.wrap (((k : Int) + 1) * (C : Int)) = ((p + C : Nat) : Int) := by rw [e2, wrap_i64]; omega
  rw [hp]
  have g1 : p + C ≤ cap := by omega
  have g2 : ¬ C = 0 := by omega
  have g3 : p + C - p = C := by omega
  obtain ⟨X, hX⟩ : ∃ X, X = (w.alloc (.cells #[.int .i64 R, .int .i64 C, .int .i64 n, .slice (some ⟨b, off, none⟩) l cap] 24)).alloc (.cells #[.int .i64 0, .int .i64 0, .int .i64 0, .slice none 0 0] 24) := ⟨_, rfl⟩
  have hK : Kept w X := by rw [hX]; exact ((Kept.refl w).alloc _ _).alloc _ _
  have hM : Bq X w.heap.size [.int .i64 R, .int .i64 C, .int .i64 n, .slice (some ⟨b, off, none⟩) l cap] := by rw [hX]; exact (Bq.new w _ 24).kept ((Kept.refl _).alloc _ _)
  have hN : Bq X (w.heap.size + 1) [.int .i64 0, .int .i64 0, .int .i64 0, .slice none 0 0] := by
    have := Bq.new (w.alloc (.cells #[.int .i64 R, .int .i64 C, .int .i64 n, .slice (some ⟨b, off, none⟩) l cap] 24)) [.int .i64 0, .int .i64 0, .int .i64 0, .slice none 0 0] 24
    rw [hX]
    simpa using this
  clear e1 e2 h1 h2 hp hl
  go_enter Try.func73, Try.ntmps73
  go_upto_region 1 with fail
  rw [← hX]
  clear hX
  have c1 := hM.c 1 _ rfl
  go_region
  go_upto_region 2 with fail
  clear c1
  have hD := (Kept.refl X).drew
  have hM := hM.kept hD
  have hN := hN.kept hD
  have hK := hK.trans hD
  generalize X.drew = Y at *
  clear hD
  have c1 := hM.c 1 _ rfl
  have c2 := hM.c 2 _ rfl
  have c3 := hM.c 3 _ rfl
  have d0 := hN.c 0 _ rfl
  have d1 := hN.c 1 _ rfl
  have d2 := hN.c 2 _ rfl
  have d3 := hN.c 3 _ rfl
  have fz := hN.fz
  have hp : ∀ (x y z t : Value), Kept w ((((Y.setCell ⟨w.heap.size + 1, 0, none⟩ x).setCell ⟨w.heap.size + 1, 1, none⟩ y).setCell ⟨w.heap.size + 1, 2, none⟩ z).setCell ⟨w.heap.size + 1, 3, none⟩ t) := fun x y z t => (((hK.setCell (p := ⟨w.heap.size + 1, 0, none⟩) (by simp) x).setCell (p := ⟨w.heap.size + 1, 1, none⟩) (by simp) y).setCell (p := ⟨w.heap.size + 1, 2, none⟩) (by simp) z).setCell (p := ⟨w.heap.size + 1, 3, none⟩) (by simp) t
  go_region
  all_goals go_wp2
  all_goals
    have hR := res4 Y (w.heap.size + 1) _ _ _ _ ⟨d0, d1, d2, d3⟩ (.int .i64 1) (.int .i64 C) (.int .i64 n) (.slice (some ⟨b, off + p, none⟩) C C)
    obtain ⟨r0, r1, r2, r3⟩ := hR
    exact bodyPost_ret (v := .agg #[.int .i64 1, .int .i64 C, .int .i64 n, .slice (some ⟨b, off + p, none⟩) C C]) (by simp [results, Try.f73, go_sem, r0, r1, r2, r3]) rfl ⟨rfl, (hp _ _ _ _).drew⟩

/-- the first error of two -/
def e2 (a b : Int) : Int := if a ≠ 0 then a else b

set_option maxHeartbeats 4000000 in
set_option maxRecDepth 100000 in
theorem allFinite_two (B : Nat) (r0 c0 n0 r1 c1 n1 : Int) (s0 s1 : Value) (E0 E1 : Int) (ht0 : ∃ a l c, s0 = .slice a l c) (ht1 : ∃ a l c, s1 = .slice a l c) (w : World) (hB : Bq w B (sl8 r0 c0 n0 s0 r1 c1 n1 s1))
    (K0 : Hid (∀ u, Kept w u → Calls Try.prog 98 #[.agg #[.int .i64 r0, .int .i64 c0, .int .i64 n0, s0]] u fun e w' => ∃ q, e = .returned (.tuple #[.int .i64 q, .int .i64 E0]) ∧ Kept u w'))
    (K1 : Hid (∀ u, Kept w u → Calls Try.prog 98 #[.agg #[.int .i64 r1, .int .i64 c1, .int .i64 n1, s1]] u fun e w' => ∃ q, e = .returned (.tuple #[.int .i64 q, .int .i64 E1]) ∧ Kept u w')) :
    Calls Try.prog 72 #[.slice (some ⟨B, 0, none⟩) 2 2] w fun e w' => e = .returned (.int .i64 (e2 E0 E1)) ∧ Kept w w' := by
  obtain ⟨sa0, sl0, sc0, rfl⟩ := ht0
  obtain ⟨sa1, sl1, sc1, rfl⟩ := ht1
  obtain ⟨F, hF⟩ : ∃ F, e2 E0 E1 = F := ⟨_, rfl⟩
  rw [hF]
  unfold e2 at hF
  have HF := hidq hF
  clear hF
  go_enter Try.func72, Try.ntmps72
  go_wp2_with fail
  go_loopw [9] (fun iv wr => ∃ (i : Nat), i ≤ 2 ∧ iv = .int .i64 i ∧ (0 < i → E0 = 0) ∧ (1 < i → E1 = 0) ∧ Kept w wr) (fun iv _ => 2 - (intOf iv).toNat)
  case atStart => exact ⟨0, Nat.zero_le _, rfl, fun h => by omega, fun h => by omega, Kept.refl _⟩
  case round =>
    obtain ⟨i, hi, rfl, h0, h1, hk⟩ := hrel
    have hBr := hB.kept hk
    rcases (show i = 0 ∨ i = 1 ∨ i = 2 by omega) with rfl | rfl | rfl
    · clear h0 h1 hi
      rw [show ((0 : Nat) : Int) = 0 from rfl]
      have q0 := hBr.c 0 _ rfl
      have q1 := hBr.c 1 _ rfl
      have q2 := hBr.c 2 _ rfl
      have q3 := hBr.c 3 _ rfl
      go_upto_region 4 with fail
      clear q0 q1 q2 q3
      have hA := Bq.new wr [.int .i64 r0, .int .i64 c0, .int .i64 n0, .slice sa0 sl0 sc0] 24
      have hkA := hk.alloc #[.int .i64 r0, .int .i64 c0, .int .i64 n0, .slice sa0 sl0 sc0] 24
      obtain ⟨Y, hY⟩ : ∃ Y, Y = wr.alloc (.cells #[.int .i64 r0, .int .i64 c0, .int .i64 n0, .slice sa0 sl0 sc0] 24) := ⟨_, rfl⟩
      rw [← hY] at hkA ⊢
      rw [show wr.alloc (.cells [.int .i64 r0, .int .i64 c0, .int .i64 n0, .slice sa0 sl0 sc0].toArray 24) = Y from hY.symm] at hA
      clear hY
      have q0 := hA.c 0 _ rfl
      have q1 := hA.c 1 _ rfl
      have q2 := hA.c 2 _ rfl
      have q3 := hA.c 3 _ rfl
      go_upto_region 5 with (first | (go_at_call 98; refine (K0.out _ hkA).mono ?_; rintro e w1 ⟨q, rfl, k1⟩))
      clear q0 q1 q2 q3 hA
      have hk1 := hkA.trans k1
      clear hkA k1
      by_cases hE : E0 = 0
      · have HE := hidq hE
        rw [hE]
        clear hE
        go_wp2_with fail
        go_roundw
        case rel => exact ⟨1, by omega, by go_num, fun _ => HE.out, fun h => by omega, hk1⟩
        case measure => simp [intOf]
      · go_wp2
        go_ret
        exact ⟨by rw [← HF.out]; simp [hE], hk1⟩
    · have HE0 := hidq (h0 (by omega))
      clear h0 h1 hi
      rw [show ((1 : Nat) : Int) = 1 from rfl]
      have q0 := hBr.c 4 _ rfl
      have q1 := hBr.c 5 _ rfl
      have q2 := hBr.c 6 _ rfl
      have q3 := hBr.c 7 _ rfl
      go_upto_region 4 with fail
      clear q0 q1 q2 q3
      have hA := Bq.new wr [.int .i64 r1, .int .i64 c1, .int .i64 n1, .slice sa1 sl1 sc1] 24
      have hkA := hk.alloc #[.int .i64 r1, .int .i64 c1, .int .i64 n1, .slice sa1 sl1 sc1] 24
      obtain ⟨Y, hY⟩ : ∃ Y, Y = wr.alloc (.cells #[.int .i64 r1, .int .i64 c1, .int .i64 n1, .slice sa1 sl1 sc1] 24) := ⟨_, rfl⟩
      rw [← hY] at hkA ⊢
      rw [show wr.alloc (.cells [.int .i64 r1, .int .i64 c1, .int .i64 n1, .slice sa1 sl1 sc1].toArray 24) = Y from hY.symm] at hA
      clear hY
      have q0 := hA.c 0 _ rfl
      have q1 := hA.c 1 _ rfl
      have q2 := hA.c 2 _ rfl
      have q3 := hA.c 3 _ rfl
      go_upto_region 5 with (first | (go_at_call 98; refine (K1.out _ hkA).mono ?_; rintro e w1 ⟨q, rfl, k1⟩))
      clear q0 q1 q2 q3 hA
      have hk1 := hkA.trans k1
      clear hkA k1
      by_cases hE : E1 = 0
      · have HE := hidq hE
        rw [hE]
        clear hE
        go_wp2_with fail
        go_roundw
        case rel => exact ⟨2, by omega, by go_num, fun _ => HE0.out, fun _ => HE.out, hk1⟩
        case measure => simp [intOf]
      · go_wp2
        go_ret
        exact ⟨by rw [← HF.out]; simp [HE0.out], hk1⟩
    · have HE0 := hidq (h0 (by omega))
      have HE1 := hidq (h1 (by omega))
      clear h0 h1 hi
      rw [show ((2 : Nat) : Int) = 2 from rfl]
      go_wp2
      go_ret
      exact ⟨by rw [← HF.out]; simp [HE0.out, HE1.out], hk⟩
end Go.Proofs.Ytcjgdfnbjbboeaa
