/- The document's Pick: what is refused. -/
import Derived.Test.YtcjgdfnbjbboeaaWr48
namespace Go.Proofs.Ytcjgdfnbjbboeaa
open Go.ChangeShapes Go.WideShapes Go.ChangeAt Go.RowKit
set_option linter.unusedVariables false
set_option linter.unusedSimpArgs false

set_option maxHeartbeats 8000000 in
set_option maxRecDepth 100000 in
theorem rpick_e (r c n : Int) (a : Option Addr) (p : Nat) (L : List Int) (r' c' n' : Int) (a' : Option Addr) (p' : Nat) (L' : List Int) (J : Value) (w : World) (x q : Int) (hq : q ≠ 0) (KC : Hid (∀ u, Kept w u → Calls Try.prog 28 #[sv8 r c n (.slice a L.length p) r' c' n' (.slice a' L'.length p')] u fun e w' => e = .returned (.tuple #[.int .i64 x, .int .i64 q]) ∧ Kept u w')) :
    Calls Try.prog 14 #[sv8 r c n (.slice a L.length p) r' c' n' (.slice a' L'.length p'), J] w fun e w' => e = .returned (zset q) ∧ Kept w w' := by
  obtain ⟨X, hXw⟩ : ∃ X, X = (w.alloc (.cells (sl8 r c n (.slice a L.length p) r' c' n' (.slice a' L'.length p')).toArray 26)).alloc (.cells (sl8 0 0 0 (.slice none 0 0) 0 0 0 (.slice none 0 0)).toArray 26) := ⟨_, rfl⟩
  have hK : Kept w X := by rw [hXw]; exact ((Kept.refl w).alloc _ _).alloc _ _
  have hXs : X.heap.size = w.heap.size + 2 := by rw [hXw]; simp
  have hB : Bq X w.heap.size (sl8 r c n (.slice a L.length p) r' c' n' (.slice a' L'.length p')) := by rw [hXw]; exact (Bq.new w _ 26).kept ((Kept.refl _).alloc _ _)
  have hR : Bq X (w.heap.size + 1) (sl8 0 0 0 (.slice none 0 0) 0 0 0 (.slice none 0 0)) := by
    have := Bq.new (w.alloc (.cells (sl8 r c n (.slice a L.length p) r' c' n' (.slice a' L'.length p')).toArray 26)) (sl8 0 0 0 (.slice none 0 0) 0 0 0 (.slice none 0 0)) 26
    rw [hXw]; simpa using this
  have hq2 : (q == 0) = false := by simpa using hq
  go_enter Try.func14, Try.ntmps14
  go_upto_region 1 with fail
  rw [← hXw]
  clear hXw
  have c0 := hB.c 0 _ rfl
  have c1 := hB.c 1 _ rfl
  have c2 := hB.c 2 _ rfl
  have c3 := hB.c 3 _ rfl
  have c4 := hB.c 4 _ rfl
  have c5 := hB.c 5 _ rfl
  have c6 := hB.c 6 _ rfl
  have c7 := hB.c 7 _ rfl
  go_upto_region 2 with (first | (go_at_call 28; refine (KC.out _ hK).mono ?_; rintro e w1 ⟨rfl, k1⟩))
  clear c0 c1 c2 c3 c4 c5 c6 c7
  have hR1 := hR.kept k1
  have hK1 := hK.trans k1
  have d0 := hR1.c 0 _ rfl
  have d1 := hR1.c 1 _ rfl
  have d2 := hR1.c 2 _ rfl
  have d3 := hR1.c 3 _ rfl
  have d4 := hR1.c 4 _ rfl
  have d5 := hR1.c 5 _ rfl
  have d6 := hR1.c 6 _ rfl
  have d7 := hR1.c 7 _ rfl
  have fz := hR1.fz
  go_wp2_with fail
  have hQ := st8 w1 (w.heap.size + 1) _ rfl hR1 (.int .i64 0) (.int .i64 0) (.int .i64 0) (.slice none 0 0) (.int .i64 0) (.int .i64 0) (.int .i64 0) (.slice none 0 0)
  have x0 := hQ.c 0 _ rfl
  have x1 := hQ.c 1 _ rfl
  have x2 := hQ.c 2 _ rfl
  have x3 := hQ.c 3 _ rfl
  have x4 := hQ.c 4 _ rfl
  have x5 := hQ.c 5 _ rfl
  have x6 := hQ.c 6 _ rfl
  have x7 := hQ.c 7 _ rfl
  exact bodyPost_ret (v := .tuple #[sv8 0 0 0 (.slice none 0 0) 0 0 0 (.slice none 0 0), .int .i64 q]) (by simp [results, Try.f14, go_sem, x0, x1, x2, x3, x4, x5, x6, x7]) rfl ⟨rfl, st8_kept hK1 (by omega) _ _ _ _ _ _ _ _⟩

theorem app_cut (H : Nat) (w : World) (v : Value) (M N : List Int) (hM : MR H w v M) (b cp m : Nat) (hm : N.length = m) (hN : Own w b cp N) (h0 : 0 < m) (hsz : M.length + m < 10000000) (hH : H ≤ w.heap.size) :
    ∃ g cap w', (∀ ty, (Builtin.append_ #[22, 22] ty #[v, .slice (some ⟨b, 0, none⟩) m cp]).run Try.prog w = .ok (.slice (some ⟨g, 0, none⟩) (M.length + m) cap) w') ∧ Own w' g cap (M ++ N) ∧ H ≤ g ∧ (∀ W : World, W.heap.size ≤ H → Kept W w → Kept W w') ∧ (∀ x d K, Own w x d K → x ∉ rb v → Own w' x d K) ∧ (g ∈ rb v ∨ w.heap.size ≤ g) ∧ (∀ x vs, x < H → Bq w x vs → Bq w' x vs) := by
  subst hm
  have hR : Rw w v 3 (M.map (Value.int .i64)) := by
    rcases hM with ⟨rfl, rfl⟩ | ⟨g, cap, rfl, hg, ho⟩
    · exact .inl ⟨rfl, rfl⟩
    · exact .inr ⟨g, cap, by rw [List.length_map], own_v.1 ho⟩
  obtain ⟨g, cap, w', hr, ho, hk⟩ := app_gen 22 3 li_under (.int .i64 0) 8 int_info (by rfl) (by decide) w v (M.map (Value.int .i64)) (N.map (Value.int .i64)) hR ⟨b, 0, none⟩ N.length cp (by rw [List.length_map]) (fun j u hj => by
      have := (own_v.1 hN).cell j u hj
      rw [Addr.add_lit]
      simpa using this) (fun u hu => by obtain ⟨x, -, rfl⟩ := List.mem_map.1 hu; rfl) h0 (by rw [List.length_map]; omega)
  rw [List.length_map] at hr
  have hO : Own w' g cap (M ++ N) := own_v.2 (by rw [List.map_append]; exact ho)
  rcases hk with ⟨e, kk⟩ | ⟨e, gg⟩
  · exact ⟨g, cap, w', hr, hO, by omega, fun W hW k => k.trans kk, fun x d K ho hx => ho.kept kk, .inr (by omega), fun x vs hx hb => hb.kept kk⟩
  · have hgv : g ∈ rb v := by rw [e]; simp [rb]
    have hgH : H ≤ g := by
      rcases hM with ⟨-, rfl⟩ | ⟨g0, cap0, rfl, hg, -⟩
      · simp [rb] at hgv
      · have : g = g0 := by simpa [rb] using hgv
        omega
    exact ⟨g, cap, w', hr, hO, hgH, fun W hW k => k.grw (by omega) gg, fun x d K ho hx => ho.grw gg (fun e => hx (by rw [e]; exact hgv)), .inl hgv, fun x vs hx hb => hb.grw gg (by omega)⟩
theorem bq_set {w : World} {b : Nat} {vs : List Value} (h : Bq w b vs) (o : Nat) (ho : o < vs.length) (v : Value) : Bq (w.setCell ⟨b, o, none⟩ v) b (vs.set o v) := by
  have ex : ∃ y, w.cell? ⟨b, o, none⟩ = some y := ⟨vs[o], h.c o _ (List.getElem?_eq_getElem ho)⟩
  refine ⟨fun i x hx => ?_, fun j => by simp [h.fz j], by simpa using h.lt⟩
  rw [cell_setb _ _ _ _ _ ex]
  by_cases e : i = o
  · rw [if_pos e]
    rw [e, List.getElem?_set_self ho] at hx
    exact hx
  · rw [if_neg e]
    rw [List.getElem?_set_ne (fun h => e h.symm)] at hx
    exact h.c i x hx
theorem MR.far {H : Nat} {w : World} {v : Value} {M : List Int} (h : MR H w v M) {p : Addr} (hp : p.block < H) (u : Value) : MR H (w.setCell p u) v M := by
  rcases h with h | ⟨g, cap, e, hg, ho⟩
  · exact .inl h
  · exact .inr ⟨g, cap, e, hg, ho.setOther (by omega) u⟩

/-- what the document's Pick answers of a set that is one -/
def PkD (H R C C' : Nat) (n : Int) (M N J : List Int) (k : Nat) (e : Ending) (w' : World) : Prop :=
  (k = 0 ∧ e = .returned (zset 41)) ∨ (0 < k ∧ ¬ Jin R J ∧ e = .returned (zset 40)) ∨ (0 < k ∧ Jin R J ∧ 4096 / max C C' < k ∧ e = .returned (zset 2)) ∨
  (0 < k ∧ Jin R J ∧ k ≤ 4096 / max C C' ∧ ∃ g cap g' cap', e = .returned (.tuple #[sv8 k C n (.slice (some ⟨g, 0, none⟩) (k * C) cap) k C' n (.slice (some ⟨g', 0, none⟩) (k * C') cap'), .int .i64 0]) ∧ Own w' g cap (pkl M C J) ∧ Own w' g' cap' (pkl N C' J) ∧ H ≤ g ∧ H ≤ g')

set_option maxHeartbeats 8000000 in
set_option maxRecDepth 100000 in
theorem rpick_v (R C C' : Nat) (n : Int) (M N : List Int) (b off cap b' off' cap' l l' : Nat) (J : List Int) (k : Nat) (hk : J.length = k) (hk5 : k ≤ 9000) (ja : Option Addr) (jc : Nat) (w : World) (hC : 0 < C) (hC' : 0 < C') (hC4 : C ≤ 4096) (hC4' : C' ≤ 4096)
    (hj : 0 < k → ∃ jb jo, ja = some ⟨jb, jo, none⟩ ∧ jb < w.heap.size ∧ Reads w jb jo J) (x : Int)
    (hM : M.length = R * C) (hN : N.length = R * C')
    (KC : Hid (∀ u, Kept w u → Calls Try.prog 28 #[sv8 R C n (.slice (some ⟨b, off, none⟩) l cap) R C' n (.slice (some ⟨b', off', none⟩) l' cap')] u fun e w' => e = .returned (.tuple #[.int .i64 x, .int .i64 0]) ∧ Kept u w'))
    (KX : Hid (∀ u (i : Nat), Kept w u → i < R → Calls Try.prog 29 #[.agg #[.int .i64 R, .int .i64 C, .int .i64 n, .slice (some ⟨b, off, none⟩) l cap], .int .i64 i] u fun e w' => ∃ g cp, e = .returned (.agg #[.int .i64 1, .int .i64 C, .int .i64 n, .slice (some ⟨g, 0, none⟩) C cp]) ∧ u.heap.size ≤ g ∧ Own w' g cp (bpt M (i * C) C) ∧ Kept u w'))
    (KY : Hid (∀ u (i : Nat), Kept w u → i < R → Calls Try.prog 29 #[.agg #[.int .i64 R, .int .i64 C', .int .i64 n, .slice (some ⟨b', off', none⟩) l' cap'], .int .i64 i] u fun e w' => ∃ g cp, e = .returned (.agg #[.int .i64 1, .int .i64 C', .int .i64 n, .slice (some ⟨g, 0, none⟩) C' cp]) ∧ u.heap.size ≤ g ∧ Own w' g cp (bpt N (i * C') C') ∧ Kept u w')) :
    Calls Try.prog 14 #[sv8 R C n (.slice (some ⟨b, off, none⟩) l cap) R C' n (.slice (some ⟨b', off', none⟩) l' cap'), .slice ja k jc] w fun e w' => PkD w.heap.size R C C' n M N J k e w' ∧ Kept w w' := by
  obtain ⟨X, hXw⟩ : ∃ X, X = (w.alloc (.cells (sl8 R C n (.slice (some ⟨b, off, none⟩) l cap) R C' n (.slice (some ⟨b', off', none⟩) l' cap')).toArray 26)).alloc (.cells (sl8 0 0 0 (.slice none 0 0) 0 0 0 (.slice none 0 0)).toArray 26) := ⟨_, rfl⟩
  have hK : Kept w X := by rw [hXw]; exact ((Kept.refl w).alloc _ _).alloc _ _
  have hXs : X.heap.size = w.heap.size + 2 := by rw [hXw]; simp
  have hB : Bq X w.heap.size (sl8 R C n (.slice (some ⟨b, off, none⟩) l cap) R C' n (.slice (some ⟨b', off', none⟩) l' cap')) := by rw [hXw]; exact (Bq.new w _ 26).kept ((Kept.refl _).alloc _ _)
  have hR : Bq X (w.heap.size + 1) (sl8 0 0 0 (.slice none 0 0) 0 0 0 (.slice none 0 0)) := by
    have := Bq.new (w.alloc (.cells (sl8 R C n (.slice (some ⟨b, off, none⟩) l cap) R C' n (.slice (some ⟨b', off', none⟩) l' cap')).toArray 26)) (sl8 0 0 0 (.slice none 0 0) 0 0 0 (.slice none 0 0)) 26
    rw [hXw]; simpa using this
  obtain ⟨kc, hkc⟩ : ∃ kc : Nat, k * C = kc := ⟨_, rfl⟩
  obtain ⟨kc', hkc'⟩ : ∃ kc : Nat, k * C' = kc := ⟨_, rfl⟩
  have hkc9 : kc ≤ 9000 * 4096 := by rw [← hkc]; exact Nat.mul_le_mul hk5 hC4
  have hkc9' : kc' ≤ 9000 * 4096 := by rw [← hkc']; exact Nat.mul_le_mul hk5 hC4'
  have zk : IntKind.i64.wrap ((k : Int) * (C : Int)) = (kc : Int) := by rw [← Int.natCast_mul, hkc, wrap_i64]; omega
  have zk' : IntKind.i64.wrap ((k : Int) * (C' : Int)) = (kc' : Int) := by rw [← Int.natCast_mul, hkc', wrap_i64]; omega
  have HMX := hidq (show (4096 / max C C' < k ↔ 4096 < kc ∨ 4096 < kc') from by
    rw [← hkc, ← hkc']
    have h0 : 4096 / max C C' < k ↔ ¬ k * max C C' ≤ 4096 := by rw [← Nat.le_div_iff_mul_le (by omega)]; omega
    rw [h0]
    rcases Nat.le_total C C' with h | h
    · rw [Nat.max_eq_right h]
      have := Nat.mul_le_mul_left k h
      omega
    · rw [Nat.max_eq_left h]
      have := Nat.mul_le_mul_left k h
      omega)
  have HKC := hidq (And.intro hkc hkc')
  have HJK := hidq hk
  have HJ := hidq hj
  clear hk hj hkc hkc'
  go_enter Try.func14, Try.ntmps14
  go_upto_region 1 with fail
  rw [← hXw]
  clear hXw
  have c0 := hB.c 0 _ rfl
  have c1 := hB.c 1 _ rfl
  have c2 := hB.c 2 _ rfl
  have c3 := hB.c 3 _ rfl
  have c4 := hB.c 4 _ rfl
  have c5 := hB.c 5 _ rfl
  have c6 := hB.c 6 _ rfl
  have c7 := hB.c 7 _ rfl
  go_upto_region 2 with (first | (go_at_call 28; refine (KC.out _ hK).mono ?_; rintro e w1 ⟨rfl, k1⟩))
  clear c0 c1 c2 c3 c4 c5 c6 c7
  have hR1 := hR.kept k1
  have hB1 := hB.kept k1
  have hK1 := hK.trans k1
  have hs1 : w.heap.size + 2 ≤ w1.heap.size := by rw [← hXs]; exact k1.below.size
  clear hB hR hK k1 KC hXs
  by_cases hk0 : k = 0
  · subst hk0
    have d0 := hR1.c 0 _ rfl
    have d1 := hR1.c 1 _ rfl
    have d2 := hR1.c 2 _ rfl
    have d3 := hR1.c 3 _ rfl
    have d4 := hR1.c 4 _ rfl
    have d5 := hR1.c 5 _ rfl
    have d6 := hR1.c 6 _ rfl
    have d7 := hR1.c 7 _ rfl
    have fz := hR1.fz
    go_wp2_with fail
    have hQ := st8 w1 (w.heap.size + 1) _ rfl hR1 (.int .i64 0) (.int .i64 0) (.int .i64 0) (.slice none 0 0) (.int .i64 0) (.int .i64 0) (.int .i64 0) (.slice none 0 0)
    have x0 := hQ.c 0 _ rfl
    have x1 := hQ.c 1 _ rfl
    have x2 := hQ.c 2 _ rfl
    have x3 := hQ.c 3 _ rfl
    have x4 := hQ.c 4 _ rfl
    have x5 := hQ.c 5 _ rfl
    have x6 := hQ.c 6 _ rfl
    have x7 := hQ.c 7 _ rfl
    exact bodyPost_ret (v := .tuple #[sv8 0 0 0 (.slice none 0 0) 0 0 0 (.slice none 0 0), .int .i64 41]) (by simp [results, Try.f14, go_sem, x0, x1, x2, x3, x4, x5, x6, x7]) rfl ⟨.inl ⟨rfl, rfl⟩, st8_kept hK1 (by omega) _ _ _ _ _ _ _ _⟩
  · have hkp : 0 < k := by omega
    obtain ⟨jb, jo, rfl, hjb, hjr⟩ := HJ.out hkp
    have HJR := hidq hjr
    clear hjr
    have hkn : ¬ (k : Int) = 0 := by omega
    go_wp2_with fail
    go_loopw [8] (fun iv wr => ∃ i : Nat, i ≤ k ∧ iv = .int .i64 i ∧ (∀ j, j < i → 0 ≤ J.getD j 0 ∧ J.getD j 0 < R) ∧ Kept w1 wr) (fun iv _ => k - (intOf iv).toNat)
    case atStart => exact ⟨0, Nat.zero_le _, rfl, fun j hj => by omega, Kept.refl _⟩
    case round =>
      obtain ⟨i, hi, rfl, hall, kr⟩ := hrel
      have HALL := hidq hall
      clear hall
      have hRr := hR1.kept kr
      have hBr := hB1.kept kr
      have hKr := hK1.trans kr
      by_cases hlt : i < k
      · have q1 := (hKr.below.cell (p := ⟨jb, jo + i, none⟩) hjb).trans (HJR.out i (by rw [HJK.out]; exact hlt))
        obtain ⟨jv, hjv⟩ : ∃ jv, J.getD i 0 = jv := ⟨_, rfl⟩
        rw [hjv] at q1
        have HJV := hidq hjv
        clear hjv
        have b4 : (i : Int) < (k : Int) := by omega
        have z1 : IntKind.i64.wrap ((i : Int) + 1) = (i : Int) + 1 := by rw [wrap_i64]; omega
        have HS : Hid (∀ u, Kept wr u → Kept wr u ∧ u.cell? ⟨jb, jo + i, none⟩ = some (.int .i64 jv) ∧ u.cell? ⟨w.heap.size, 0, none⟩ = some (.int .i64 R)) := fun u m => ⟨m, (m.below.cell (p := ⟨jb, jo + i, none⟩) (Nat.lt_of_lt_of_le hjb hKr.below.size)).trans q1, (hBr.kept m).c 0 _ rfl⟩
        go_upto_region 9 with fail
        clear q1
        obtain ⟨Y0, hY0⟩ : ∃ Y0, Y0 = wr.drew := ⟨_, rfl⟩
        have kY : Kept wr Y0 := by rw [hY0]; exact (Kept.refl wr).drew
        have hRy := hRr.kept kY
        have hKy := hKr.trans kY
        have HY0 := hidq hY0
        clear hY0
        by_cases hbad : jv < 0
        · have HNI := hidq (show ¬ Jin R J from fun h => by have := (h i (by rw [HJK.out]; exact hlt)).1; rw [HJV.out] at this; omega)
          refine wp_region_late [] (fun u => Kept wr u ∧ u.cell? ⟨jb, jo + i, none⟩ = some (.int .i64 jv) ∧ u.cell? ⟨w.heap.size, 0, none⟩ = some (.int .i64 R)) (by kernel_rfl) (HS.out _ (Kept.refl wr).drew) (fun hHeld => ?_)
          rw [← HY0.out] at hHeld ⊢
          refine wpAnyD_take (i := 0) (v := ?_) rfl (by kernel_rfl) (by kernel_rfl) (by kernel_rfl) (by kernel_rfl) (fun _ _ _ h => h) (Or.inl ⟨by rfl, ?hya0⟩) hHeld ?_
          case hya0 => (intro w hSw; (try dsimp only at hSw); go_simp; try (with_reducible rfl))
          (try simp only [Act.put, List.getElem_toArray, List.getElem_cons_succ, List.getElem_cons_zero, List.setIfInBounds_toArray, List.set_cons_zero, List.set_cons_succ])
          refine wpAnyD_take (i := 1) (v := ?_) rfl (by kernel_rfl) (by kernel_rfl) (by kernel_rfl) (by kernel_rfl) (fun _ _ _ h => h) (Or.inl ⟨by rfl, ?hya1⟩) hHeld ?_
          case hya1 => (intro w hSw; (try dsimp only at hSw); go_simp; try (with_reducible rfl))
          (try simp only [Act.put, List.getElem_toArray, List.getElem_cons_succ, List.getElem_cons_zero, List.setIfInBounds_toArray, List.set_cons_zero, List.set_cons_succ])
          refine wpAnyD_take (i := 2) (v := ?_) rfl (by kernel_rfl) (by kernel_rfl) (by kernel_rfl) (by kernel_rfl) (fun _ _ _ h => h) (Or.inl ⟨by rfl, ?hya2⟩) hHeld ?_
          case hya2 => (intro w hSw; (try dsimp only at hSw); go_simp; try (with_reducible rfl))
          (try simp only [Act.put, List.getElem_toArray, List.getElem_cons_succ, List.getElem_cons_zero, List.setIfInBounds_toArray, List.set_cons_zero, List.set_cons_succ])
          refine wpAnyD_take (i := 3) (v := ?_) rfl (by kernel_rfl) (by kernel_rfl) (by kernel_rfl) (by kernel_rfl) (fun _ _ _ h => h) (Or.inl ⟨by rfl, ?hya3⟩) hHeld ?_
          case hya3 => (intro w hSw; (try dsimp only at hSw); go_simp; try (with_reducible rfl))
          (try simp only [Act.put, List.getElem_toArray, List.getElem_cons_succ, List.getElem_cons_zero, List.setIfInBounds_toArray, List.set_cons_zero, List.set_cons_succ])
          refine wpAnyD_take (i := 4) (v := ?_) rfl (by kernel_rfl) (by kernel_rfl) (by kernel_rfl) (by kernel_rfl) (fun _ _ _ h => h) (Or.inl ⟨by rfl, ?hya4⟩) hHeld ?_
          case hya4 => (intro w hSw; (try dsimp only at hSw); go_simp; try (with_reducible rfl))
          (try simp only [Act.put, List.getElem_toArray, List.getElem_cons_succ, List.getElem_cons_zero, List.setIfInBounds_toArray, List.set_cons_zero, List.set_cons_succ])
          refine wpAnyD_take (i := 5) (v := ?_) rfl (by kernel_rfl) (by kernel_rfl) (by kernel_rfl) (by kernel_rfl) (fun _ _ _ h => h) (Or.inl ⟨by rfl, ?hya5⟩) hHeld ?_
          case hya5 => (intro w hSw; (try dsimp only at hSw); go_simp; try (with_reducible rfl))
          (try simp only [Act.put, List.getElem_toArray, List.getElem_cons_succ, List.getElem_cons_zero, List.setIfInBounds_toArray, List.set_cons_zero, List.set_cons_succ])
          refine wpAnyD_take (i := 6) (v := undef) rfl (by kernel_rfl) (by kernel_rfl) (by kernel_rfl) (by kernel_rfl) (fun _ _ _ h => h) (Or.inr ⟨by rfl, rfl⟩) hHeld ?_
          (try simp only [Act.put, List.getElem_toArray, List.getElem_cons_succ, List.getElem_cons_zero, List.setIfInBounds_toArray, List.set_cons_zero, List.set_cons_succ])
          refine wpAnyD_take (i := 7) (v := undef) rfl (by kernel_rfl) (by kernel_rfl) (by kernel_rfl) (by kernel_rfl) (fun _ _ _ h => h) (Or.inr ⟨by rfl, rfl⟩) hHeld ?_
          (try simp only [Act.put, List.getElem_toArray, List.getElem_cons_succ, List.getElem_cons_zero, List.setIfInBounds_toArray, List.set_cons_zero, List.set_cons_succ])
          refine wpAnyD_take (i := 8) (v := undef) rfl (by kernel_rfl) (by kernel_rfl) (by kernel_rfl) (by kernel_rfl) (fun _ _ _ h => h) (Or.inr ⟨by rfl, rfl⟩) hHeld ?_
          (try simp only [Act.put, List.getElem_toArray, List.getElem_cons_succ, List.getElem_cons_zero, List.setIfInBounds_toArray, List.set_cons_zero, List.set_cons_succ])
          refine wpAnyD_take (i := 9) (v := undef) rfl (by kernel_rfl) (by kernel_rfl) (by kernel_rfl) (by kernel_rfl) (fun _ _ _ h => h) (Or.inr ⟨by rfl, rfl⟩) hHeld ?_
          (try simp only [Act.put, List.getElem_toArray, List.getElem_cons_succ, List.getElem_cons_zero, List.setIfInBounds_toArray, List.set_cons_zero, List.set_cons_succ])
          refine wpAnyD_take (i := 10) (v := undef) rfl (by kernel_rfl) (by kernel_rfl) (by kernel_rfl) (by kernel_rfl) (fun _ _ _ h => h) (Or.inr ⟨by rfl, rfl⟩) hHeld ?_
          (try simp only [Act.put, List.getElem_toArray, List.getElem_cons_succ, List.getElem_cons_zero, List.setIfInBounds_toArray, List.set_cons_zero, List.set_cons_succ])
          refine wpAnyD_take (i := 11) (v := undef) rfl (by kernel_rfl) (by kernel_rfl) (by kernel_rfl) (by kernel_rfl) (fun _ _ _ h => h) (Or.inr ⟨by rfl, rfl⟩) hHeld ?_
          (try simp only [Act.put, List.getElem_toArray, List.getElem_cons_succ, List.getElem_cons_zero, List.setIfInBounds_toArray, List.set_cons_zero, List.set_cons_succ])
          refine wpAnyD_take (i := 12) (v := undef) rfl (by kernel_rfl) (by kernel_rfl) (by kernel_rfl) (by kernel_rfl) (fun _ _ _ h => h) (Or.inr ⟨by rfl, rfl⟩) hHeld ?_
          (try simp only [Act.put, List.getElem_toArray, List.getElem_cons_succ, List.getElem_cons_zero, List.setIfInBounds_toArray, List.set_cons_zero, List.set_cons_succ])
          refine wpAnyD_take (i := 13) (v := undef) rfl (by kernel_rfl) (by kernel_rfl) (by kernel_rfl) (by kernel_rfl) (fun _ _ _ h => h) (Or.inr ⟨by rfl, rfl⟩) hHeld ?_
          (try simp only [Act.put, List.getElem_toArray, List.getElem_cons_succ, List.getElem_cons_zero, List.setIfInBounds_toArray, List.set_cons_zero, List.set_cons_succ])
          refine wpAnyD_take (i := 14) (v := ?_) rfl (by kernel_rfl) (by kernel_rfl) (by kernel_rfl) (by kernel_rfl) (fun _ _ _ h => h) (Or.inl ⟨by rfl, ?hyb14⟩) hHeld ?_
          case hyb14 => (intro w hSw; (try dsimp only at hSw); go_simp; try (with_reducible rfl))
          (try simp only [Act.put, List.getElem_toArray, List.getElem_cons_succ, List.getElem_cons_zero, List.setIfInBounds_toArray, List.set_cons_zero, List.set_cons_succ])
          refine wpAnyD_done (by kernel_rfl) ?_ _
          (try simp only [Act.put, List.getElem_toArray, List.getElem_cons_succ, List.getElem_cons_zero, List.setIfInBounds_toArray, List.set_cons_zero, List.set_cons_succ])
          have d0 := hRy.c 0 _ rfl
          have d1 := hRy.c 1 _ rfl
          have d2 := hRy.c 2 _ rfl
          have d3 := hRy.c 3 _ rfl
          have d4 := hRy.c 4 _ rfl
          have d5 := hRy.c 5 _ rfl
          have d6 := hRy.c 6 _ rfl
          have d7 := hRy.c 7 _ rfl
          have fz := hRy.fz
          go_wp2_with fail
          have hQ := st8 Y0 (w.heap.size + 1) _ rfl hRy (.int .i64 0) (.int .i64 0) (.int .i64 0) (.slice none 0 0) (.int .i64 0) (.int .i64 0) (.int .i64 0) (.slice none 0 0)
          have x0 := hQ.c 0 _ rfl
          have x1 := hQ.c 1 _ rfl
          have x2 := hQ.c 2 _ rfl
          have x3 := hQ.c 3 _ rfl
          have x4 := hQ.c 4 _ rfl
          have x5 := hQ.c 5 _ rfl
          have x6 := hQ.c 6 _ rfl
          have x7 := hQ.c 7 _ rfl
          exact bodyPost_ret (v := .tuple #[sv8 0 0 0 (.slice none 0 0) 0 0 0 (.slice none 0 0), .int .i64 40]) (by simp [results, Try.f14, go_sem, x0, x1, x2, x3, x4, x5, x6, x7]) rfl ⟨.inr (.inl ⟨hkp, HNI.out, rfl⟩), st8_kept hKy (by omega) _ _ _ _ _ _ _ _⟩
        · by_cases hbig : (R : Int) ≤ jv
          · have HNI := hidq (show ¬ Jin R J from fun h => by have := (h i (by rw [HJK.out]; exact hlt)).2; rw [HJV.out] at this; omega)
            refine wp_region_late [] (fun u => Kept wr u ∧ u.cell? ⟨jb, jo + i, none⟩ = some (.int .i64 jv) ∧ u.cell? ⟨w.heap.size, 0, none⟩ = some (.int .i64 R)) (by kernel_rfl) (HS.out _ (Kept.refl wr).drew) (fun hHeld => ?_)
            rw [← HY0.out] at hHeld ⊢
            refine wpAnyD_take (i := 0) (v := ?_) rfl (by kernel_rfl) (by kernel_rfl) (by kernel_rfl) (by kernel_rfl) (fun _ _ _ h => h) (Or.inl ⟨by rfl, ?hyc0⟩) hHeld ?_
            case hyc0 => (intro w hSw; (try dsimp only at hSw); go_simp; try (with_reducible rfl))
            (try simp only [Act.put, List.getElem_toArray, List.getElem_cons_succ, List.getElem_cons_zero, List.setIfInBounds_toArray, List.set_cons_zero, List.set_cons_succ])
            refine wpAnyD_take (i := 1) (v := ?_) rfl (by kernel_rfl) (by kernel_rfl) (by kernel_rfl) (by kernel_rfl) (fun _ _ _ h => h) (Or.inl ⟨by rfl, ?hyc1⟩) hHeld ?_
            case hyc1 => (intro w hSw; (try dsimp only at hSw); go_simp; try (with_reducible rfl))
            (try simp only [Act.put, List.getElem_toArray, List.getElem_cons_succ, List.getElem_cons_zero, List.setIfInBounds_toArray, List.set_cons_zero, List.set_cons_succ])
            refine wpAnyD_take (i := 2) (v := ?_) rfl (by kernel_rfl) (by kernel_rfl) (by kernel_rfl) (by kernel_rfl) (fun _ _ _ h => h) (Or.inl ⟨by rfl, ?hyc2⟩) hHeld ?_
            case hyc2 => (intro w hSw; (try dsimp only at hSw); go_simp; try (with_reducible rfl))
            (try simp only [Act.put, List.getElem_toArray, List.getElem_cons_succ, List.getElem_cons_zero, List.setIfInBounds_toArray, List.set_cons_zero, List.set_cons_succ])
            refine wpAnyD_take (i := 3) (v := ?_) rfl (by kernel_rfl) (by kernel_rfl) (by kernel_rfl) (by kernel_rfl) (fun _ _ _ h => h) (Or.inl ⟨by rfl, ?hyc3⟩) hHeld ?_
            case hyc3 => (intro w hSw; (try dsimp only at hSw); go_simp; try (with_reducible rfl))
            (try simp only [Act.put, List.getElem_toArray, List.getElem_cons_succ, List.getElem_cons_zero, List.setIfInBounds_toArray, List.set_cons_zero, List.set_cons_succ])
            refine wpAnyD_take (i := 4) (v := ?_) rfl (by kernel_rfl) (by kernel_rfl) (by kernel_rfl) (by kernel_rfl) (fun _ _ _ h => h) (Or.inl ⟨by rfl, ?hyc4⟩) hHeld ?_
            case hyc4 => (intro w hSw; (try dsimp only at hSw); go_simp; try (with_reducible rfl))
            (try simp only [Act.put, List.getElem_toArray, List.getElem_cons_succ, List.getElem_cons_zero, List.setIfInBounds_toArray, List.set_cons_zero, List.set_cons_succ])
            refine wpAnyD_take (i := 5) (v := ?_) rfl (by kernel_rfl) (by kernel_rfl) (by kernel_rfl) (by kernel_rfl) (fun _ _ _ h => h) (Or.inl ⟨by rfl, ?hyc5⟩) hHeld ?_
            case hyc5 => (intro w hSw; (try dsimp only at hSw); go_simp; try (with_reducible rfl))
            (try simp only [Act.put, List.getElem_toArray, List.getElem_cons_succ, List.getElem_cons_zero, List.setIfInBounds_toArray, List.set_cons_zero, List.set_cons_succ])
            refine wpAnyD_take (i := 6) (v := ?_) rfl (by kernel_rfl) (by kernel_rfl) (by kernel_rfl) (by kernel_rfl) (fun _ _ _ h => h) (Or.inl ⟨by rfl, ?hyc6⟩) hHeld ?_
            case hyc6 => (intro w hSw; (try dsimp only at hSw); go_simp; try (with_reducible rfl))
            (try simp only [Act.put, List.getElem_toArray, List.getElem_cons_succ, List.getElem_cons_zero, List.setIfInBounds_toArray, List.set_cons_zero, List.set_cons_succ])
            refine wpAnyD_take (i := 7) (v := ?_) rfl (by kernel_rfl) (by kernel_rfl) (by kernel_rfl) (by kernel_rfl) (fun _ _ _ h => h) (Or.inl ⟨by rfl, ?hyc7⟩) hHeld ?_
            case hyc7 => (intro w hSw; (try dsimp only at hSw); go_simp; try (with_reducible rfl))
            (try simp only [Act.put, List.getElem_toArray, List.getElem_cons_succ, List.getElem_cons_zero, List.setIfInBounds_toArray, List.set_cons_zero, List.set_cons_succ])
            refine wpAnyD_take (i := 8) (v := ?_) rfl (by kernel_rfl) (by kernel_rfl) (by kernel_rfl) (by kernel_rfl) (fun _ _ _ h => h) (Or.inl ⟨by rfl, ?hyc8⟩) hHeld ?_
            case hyc8 => (intro w hSw; (try dsimp only at hSw); go_simp; try (with_reducible rfl))
            (try simp only [Act.put, List.getElem_toArray, List.getElem_cons_succ, List.getElem_cons_zero, List.setIfInBounds_toArray, List.set_cons_zero, List.set_cons_succ])
            refine wpAnyD_take (i := 9) (v := ?_) rfl (by kernel_rfl) (by kernel_rfl) (by kernel_rfl) (by kernel_rfl) (fun _ _ _ h => h) (Or.inl ⟨by rfl, ?hyc9⟩) hHeld ?_
            case hyc9 => (intro w hSw; (try dsimp only at hSw); go_simp; try (with_reducible rfl))
            (try simp only [Act.put, List.getElem_toArray, List.getElem_cons_succ, List.getElem_cons_zero, List.setIfInBounds_toArray, List.set_cons_zero, List.set_cons_succ])
            refine wpAnyD_take (i := 10) (v := ?_) rfl (by kernel_rfl) (by kernel_rfl) (by kernel_rfl) (by kernel_rfl) (fun _ _ _ h => h) (Or.inl ⟨by rfl, ?hyc10⟩) hHeld ?_
            case hyc10 => (intro w hSw; (try dsimp only at hSw); go_simp; try (with_reducible rfl))
            (try simp only [Act.put, List.getElem_toArray, List.getElem_cons_succ, List.getElem_cons_zero, List.setIfInBounds_toArray, List.set_cons_zero, List.set_cons_succ])
            refine wpAnyD_take (i := 11) (v := ?_) rfl (by kernel_rfl) (by kernel_rfl) (by kernel_rfl) (by kernel_rfl) (fun _ _ _ h => h) (Or.inl ⟨by rfl, ?hyc11⟩) hHeld ?_
            case hyc11 => (intro w hSw; (try dsimp only at hSw); go_simp; try (with_reducible rfl))
            (try simp only [Act.put, List.getElem_toArray, List.getElem_cons_succ, List.getElem_cons_zero, List.setIfInBounds_toArray, List.set_cons_zero, List.set_cons_succ])
            refine wpAnyD_take (i := 12) (v := ?_) rfl (by kernel_rfl) (by kernel_rfl) (by kernel_rfl) (by kernel_rfl) (fun _ _ _ h => h) (Or.inl ⟨by rfl, ?hyc12⟩) hHeld ?_
            case hyc12 => (intro w hSw; (try dsimp only at hSw); go_simp; try (with_reducible rfl))
            (try simp only [Act.put, List.getElem_toArray, List.getElem_cons_succ, List.getElem_cons_zero, List.setIfInBounds_toArray, List.set_cons_zero, List.set_cons_succ])
            refine wpAnyD_take (i := 13) (v := ?_) rfl (by kernel_rfl) (by kernel_rfl) (by kernel_rfl) (by kernel_rfl) (fun _ _ _ h => h) (Or.inl ⟨by rfl, ?hyc13⟩) hHeld ?_
            case hyc13 => (intro w hSw; (try dsimp only at hSw); go_simp; try (with_reducible rfl))
            (try simp only [Act.put, List.getElem_toArray, List.getElem_cons_succ, List.getElem_cons_zero, List.setIfInBounds_toArray, List.set_cons_zero, List.set_cons_succ])
            refine wpAnyD_take (i := 14) (v := ?_) rfl (by kernel_rfl) (by kernel_rfl) (by kernel_rfl) (by kernel_rfl) (fun _ _ _ h => h) (Or.inl ⟨by rfl, ?hyc14⟩) hHeld ?_
            case hyc14 => (intro w hSw; (try dsimp only at hSw); go_simp; try (with_reducible rfl))
            (try simp only [Act.put, List.getElem_toArray, List.getElem_cons_succ, List.getElem_cons_zero, List.setIfInBounds_toArray, List.set_cons_zero, List.set_cons_succ])
            refine wpAnyD_done (by kernel_rfl) ?_ _
            (try simp only [Act.put, List.getElem_toArray, List.getElem_cons_succ, List.getElem_cons_zero, List.setIfInBounds_toArray, List.set_cons_zero, List.set_cons_succ])
            have d0 := hRy.c 0 _ rfl
            have d1 := hRy.c 1 _ rfl
            have d2 := hRy.c 2 _ rfl
            have d3 := hRy.c 3 _ rfl
            have d4 := hRy.c 4 _ rfl
            have d5 := hRy.c 5 _ rfl
            have d6 := hRy.c 6 _ rfl
            have d7 := hRy.c 7 _ rfl
            have fz := hRy.fz
            go_wp2_with fail
            have hQ := st8 Y0 (w.heap.size + 1) _ rfl hRy (.int .i64 0) (.int .i64 0) (.int .i64 0) (.slice none 0 0) (.int .i64 0) (.int .i64 0) (.int .i64 0) (.slice none 0 0)
            have x0 := hQ.c 0 _ rfl
            have x1 := hQ.c 1 _ rfl
            have x2 := hQ.c 2 _ rfl
            have x3 := hQ.c 3 _ rfl
            have x4 := hQ.c 4 _ rfl
            have x5 := hQ.c 5 _ rfl
            have x6 := hQ.c 6 _ rfl
            have x7 := hQ.c 7 _ rfl
            exact bodyPost_ret (v := .tuple #[sv8 0 0 0 (.slice none 0 0) 0 0 0 (.slice none 0 0), .int .i64 40]) (by simp [results, Try.f14, go_sem, x0, x1, x2, x3, x4, x5, x6, x7]) rfl ⟨.inr (.inl ⟨hkp, HNI.out, rfl⟩), st8_kept hKy (by omega) _ _ _ _ _ _ _ _⟩
          · have hsm : jv < (R : Int) := by omega
            refine wp_region_late [] (fun u => Kept wr u ∧ u.cell? ⟨jb, jo + i, none⟩ = some (.int .i64 jv) ∧ u.cell? ⟨w.heap.size, 0, none⟩ = some (.int .i64 R)) (by kernel_rfl) (HS.out _ (Kept.refl wr).drew) (fun hHeld => ?_)
            rw [← HY0.out] at hHeld ⊢
            refine wpAnyD_take (i := 0) (v := ?_) rfl (by kernel_rfl) (by kernel_rfl) (by kernel_rfl) (by kernel_rfl) (fun _ _ _ h => h) (Or.inl ⟨by rfl, ?hyd0⟩) hHeld ?_
            case hyd0 => (intro w hSw; (try dsimp only at hSw); go_simp; try (with_reducible rfl))
            (try simp only [Act.put, List.getElem_toArray, List.getElem_cons_succ, List.getElem_cons_zero, List.setIfInBounds_toArray, List.set_cons_zero, List.set_cons_succ])
            refine wpAnyD_take (i := 1) (v := ?_) rfl (by kernel_rfl) (by kernel_rfl) (by kernel_rfl) (by kernel_rfl) (fun _ _ _ h => h) (Or.inl ⟨by rfl, ?hyd1⟩) hHeld ?_
            case hyd1 => (intro w hSw; (try dsimp only at hSw); go_simp; try (with_reducible rfl))
            (try simp only [Act.put, List.getElem_toArray, List.getElem_cons_succ, List.getElem_cons_zero, List.setIfInBounds_toArray, List.set_cons_zero, List.set_cons_succ])
            refine wpAnyD_take (i := 2) (v := ?_) rfl (by kernel_rfl) (by kernel_rfl) (by kernel_rfl) (by kernel_rfl) (fun _ _ _ h => h) (Or.inl ⟨by rfl, ?hyd2⟩) hHeld ?_
            case hyd2 => (intro w hSw; (try dsimp only at hSw); go_simp; try (with_reducible rfl))
            (try simp only [Act.put, List.getElem_toArray, List.getElem_cons_succ, List.getElem_cons_zero, List.setIfInBounds_toArray, List.set_cons_zero, List.set_cons_succ])
            refine wpAnyD_take (i := 3) (v := ?_) rfl (by kernel_rfl) (by kernel_rfl) (by kernel_rfl) (by kernel_rfl) (fun _ _ _ h => h) (Or.inl ⟨by rfl, ?hyd3⟩) hHeld ?_
            case hyd3 => (intro w hSw; (try dsimp only at hSw); go_simp; try (with_reducible rfl))
            (try simp only [Act.put, List.getElem_toArray, List.getElem_cons_succ, List.getElem_cons_zero, List.setIfInBounds_toArray, List.set_cons_zero, List.set_cons_succ])
            refine wpAnyD_take (i := 4) (v := ?_) rfl (by kernel_rfl) (by kernel_rfl) (by kernel_rfl) (by kernel_rfl) (fun _ _ _ h => h) (Or.inl ⟨by rfl, ?hyd4⟩) hHeld ?_
            case hyd4 => (intro w hSw; (try dsimp only at hSw); go_simp; try (with_reducible rfl))
            (try simp only [Act.put, List.getElem_toArray, List.getElem_cons_succ, List.getElem_cons_zero, List.setIfInBounds_toArray, List.set_cons_zero, List.set_cons_succ])
            refine wpAnyD_take (i := 5) (v := ?_) rfl (by kernel_rfl) (by kernel_rfl) (by kernel_rfl) (by kernel_rfl) (fun _ _ _ h => h) (Or.inl ⟨by rfl, ?hyd5⟩) hHeld ?_
            case hyd5 => (intro w hSw; (try dsimp only at hSw); go_simp; try (with_reducible rfl))
            (try simp only [Act.put, List.getElem_toArray, List.getElem_cons_succ, List.getElem_cons_zero, List.setIfInBounds_toArray, List.set_cons_zero, List.set_cons_succ])
            refine wpAnyD_take (i := 6) (v := ?_) rfl (by kernel_rfl) (by kernel_rfl) (by kernel_rfl) (by kernel_rfl) (fun _ _ _ h => h) (Or.inl ⟨by rfl, ?hyd6⟩) hHeld ?_
            case hyd6 => (intro w hSw; (try dsimp only at hSw); go_simp; try (with_reducible rfl))
            (try simp only [Act.put, List.getElem_toArray, List.getElem_cons_succ, List.getElem_cons_zero, List.setIfInBounds_toArray, List.set_cons_zero, List.set_cons_succ])
            refine wpAnyD_take (i := 7) (v := ?_) rfl (by kernel_rfl) (by kernel_rfl) (by kernel_rfl) (by kernel_rfl) (fun _ _ _ h => h) (Or.inl ⟨by rfl, ?hyd7⟩) hHeld ?_
            case hyd7 => (intro w hSw; (try dsimp only at hSw); go_simp; try (with_reducible rfl))
            (try simp only [Act.put, List.getElem_toArray, List.getElem_cons_succ, List.getElem_cons_zero, List.setIfInBounds_toArray, List.set_cons_zero, List.set_cons_succ])
            refine wpAnyD_take (i := 8) (v := ?_) rfl (by kernel_rfl) (by kernel_rfl) (by kernel_rfl) (by kernel_rfl) (fun _ _ _ h => h) (Or.inl ⟨by rfl, ?hyd8⟩) hHeld ?_
            case hyd8 => (intro w hSw; (try dsimp only at hSw); go_simp; try (with_reducible rfl))
            (try simp only [Act.put, List.getElem_toArray, List.getElem_cons_succ, List.getElem_cons_zero, List.setIfInBounds_toArray, List.set_cons_zero, List.set_cons_succ])
            refine wpAnyD_take (i := 9) (v := ?_) rfl (by kernel_rfl) (by kernel_rfl) (by kernel_rfl) (by kernel_rfl) (fun _ _ _ h => h) (Or.inl ⟨by rfl, ?hyd9⟩) hHeld ?_
            case hyd9 => (intro w hSw; (try dsimp only at hSw); go_simp; try (with_reducible rfl))
            (try simp only [Act.put, List.getElem_toArray, List.getElem_cons_succ, List.getElem_cons_zero, List.setIfInBounds_toArray, List.set_cons_zero, List.set_cons_succ])
            refine wpAnyD_take (i := 10) (v := ?_) rfl (by kernel_rfl) (by kernel_rfl) (by kernel_rfl) (by kernel_rfl) (fun _ _ _ h => h) (Or.inl ⟨by rfl, ?hyd10⟩) hHeld ?_
            case hyd10 => (intro w hSw; (try dsimp only at hSw); go_simp; try (with_reducible rfl))
            (try simp only [Act.put, List.getElem_toArray, List.getElem_cons_succ, List.getElem_cons_zero, List.setIfInBounds_toArray, List.set_cons_zero, List.set_cons_succ])
            refine wpAnyD_take (i := 11) (v := ?_) rfl (by kernel_rfl) (by kernel_rfl) (by kernel_rfl) (by kernel_rfl) (fun _ _ _ h => h) (Or.inl ⟨by rfl, ?hyd11⟩) hHeld ?_
            case hyd11 => (intro w hSw; (try dsimp only at hSw); go_simp; try (with_reducible rfl))
            (try simp only [Act.put, List.getElem_toArray, List.getElem_cons_succ, List.getElem_cons_zero, List.setIfInBounds_toArray, List.set_cons_zero, List.set_cons_succ])
            refine wpAnyD_take (i := 12) (v := ?_) rfl (by kernel_rfl) (by kernel_rfl) (by kernel_rfl) (by kernel_rfl) (fun _ _ _ h => h) (Or.inl ⟨by rfl, ?hyd12⟩) hHeld ?_
            case hyd12 => (intro w hSw; (try dsimp only at hSw); go_simp; try (with_reducible rfl))
            (try simp only [Act.put, List.getElem_toArray, List.getElem_cons_succ, List.getElem_cons_zero, List.setIfInBounds_toArray, List.set_cons_zero, List.set_cons_succ])
            refine wpAnyD_take (i := 13) (v := ?_) rfl (by kernel_rfl) (by kernel_rfl) (by kernel_rfl) (by kernel_rfl) (fun _ _ _ h => h) (Or.inl ⟨by rfl, ?hyd13⟩) hHeld ?_
            case hyd13 => (intro w hSw; (try dsimp only at hSw); go_simp; try (with_reducible rfl))
            (try simp only [Act.put, List.getElem_toArray, List.getElem_cons_succ, List.getElem_cons_zero, List.setIfInBounds_toArray, List.set_cons_zero, List.set_cons_succ])
            refine wpAnyD_take (i := 14) (v := ?_) rfl (by kernel_rfl) (by kernel_rfl) (by kernel_rfl) (by kernel_rfl) (fun _ _ _ h => h) (Or.inl ⟨by rfl, ?hyd14⟩) hHeld ?_
            case hyd14 => (intro w hSw; (try dsimp only at hSw); go_simp; try (with_reducible rfl))
            (try simp only [Act.put, List.getElem_toArray, List.getElem_cons_succ, List.getElem_cons_zero, List.setIfInBounds_toArray, List.set_cons_zero, List.set_cons_succ])
            refine wpAnyD_done (by kernel_rfl) ?_ _
            (try simp only [Act.put, List.getElem_toArray, List.getElem_cons_succ, List.getElem_cons_zero, List.setIfInBounds_toArray, List.set_cons_zero, List.set_cons_succ])
            go_wp2_with fail
            go_roundw
            case rel => exact ⟨i + 1, by omega, by go_num, fun j hj => (by
              by_cases e : j = i
              · rw [e, HJV.out]; omega
              · exact HALL.out j (by omega)), kr.trans kY⟩
            case measure => simp [intOf]; omega
      · obtain rfl : i = k := by omega
        have HIN := hidq (show Jin R J from fun j hj => HALL.out j (by rw [HJK.out] at hj; exact hj))
        have b4 : ¬ (i : Int) < (i : Int) := by omega
        have c1 := hBr.c 1 _ rfl
        have c5 := hBr.c 5 _ rfl
        by_cases hlong : 4096 < kc ∨ 4096 < kc'
        · have HLO := hidq (HMX.out.2 hlong)
          by_cases hl1 : 4096 < kc
          · have g1 : (4096 : Int) < (kc : Int) := by omega
            have d0 := hRr.c 0 _ rfl
            have d1 := hRr.c 1 _ rfl
            have d2 := hRr.c 2 _ rfl
            have d3 := hRr.c 3 _ rfl
            have d4 := hRr.c 4 _ rfl
            have d5 := hRr.c 5 _ rfl
            have d6 := hRr.c 6 _ rfl
            have d7 := hRr.c 7 _ rfl
            have fz := hRr.fz
            go_wp2_with fail
            have hQ := st8 wr (w.heap.size + 1) _ rfl hRr (.int .i64 0) (.int .i64 0) (.int .i64 0) (.slice none 0 0) (.int .i64 0) (.int .i64 0) (.int .i64 0) (.slice none 0 0)
            have x0 := hQ.c 0 _ rfl
            have x1 := hQ.c 1 _ rfl
            have x2 := hQ.c 2 _ rfl
            have x3 := hQ.c 3 _ rfl
            have x4 := hQ.c 4 _ rfl
            have x5 := hQ.c 5 _ rfl
            have x6 := hQ.c 6 _ rfl
            have x7 := hQ.c 7 _ rfl
            exact bodyPost_ret (v := .tuple #[sv8 0 0 0 (.slice none 0 0) 0 0 0 (.slice none 0 0), .int .i64 2]) (by simp [results, Try.f14, go_sem, x0, x1, x2, x3, x4, x5, x6, x7]) rfl ⟨.inr (.inr (.inl ⟨hkp, HIN.out, HLO.out, rfl⟩)), st8_kept hKr (by omega) _ _ _ _ _ _ _ _⟩
          · have g1 : ¬ (4096 : Int) < (kc : Int) := by omega
            have g2 : (4096 : Int) < (kc' : Int) := by omega
            have d0 := hRr.c 0 _ rfl
            have d1 := hRr.c 1 _ rfl
            have d2 := hRr.c 2 _ rfl
            have d3 := hRr.c 3 _ rfl
            have d4 := hRr.c 4 _ rfl
            have d5 := hRr.c 5 _ rfl
            have d6 := hRr.c 6 _ rfl
            have d7 := hRr.c 7 _ rfl
            have fz := hRr.fz
            go_wp2_with fail
            have hQ := st8 wr (w.heap.size + 1) _ rfl hRr (.int .i64 0) (.int .i64 0) (.int .i64 0) (.slice none 0 0) (.int .i64 0) (.int .i64 0) (.int .i64 0) (.slice none 0 0)
            have x0 := hQ.c 0 _ rfl
            have x1 := hQ.c 1 _ rfl
            have x2 := hQ.c 2 _ rfl
            have x3 := hQ.c 3 _ rfl
            have x4 := hQ.c 4 _ rfl
            have x5 := hQ.c 5 _ rfl
            have x6 := hQ.c 6 _ rfl
            have x7 := hQ.c 7 _ rfl
            exact bodyPost_ret (v := .tuple #[sv8 0 0 0 (.slice none 0 0) 0 0 0 (.slice none 0 0), .int .i64 2]) (by simp [results, Try.f14, go_sem, x0, x1, x2, x3, x4, x5, x6, x7]) rfl ⟨.inr (.inr (.inl ⟨hkp, HIN.out, HLO.out, rfl⟩)), st8_kept hKr (by omega) _ _ _ _ _ _ _ _⟩
        · have g1 : ¬ (4096 : Int) < (kc : Int) := by omega
          have g2 : ¬ (4096 : Int) < (kc' : Int) := by omega
          have HFI := hidq (show i ≤ 4096 / max C C' from Nat.le_of_not_lt fun h => hlong (HMX.out.1 h))
          have c2 := hBr.c 2 _ rfl
          have c6 := hBr.c 6 _ rfl
          go_upto_region 14 with fail
          clear c1 c5 c2 c6
          have kG : Kept wr (wr.alloc (.cells (sl8 i C n (.slice none 0 0) i C' n (.slice none 0 0)).toArray 26)) := (Kept.refl wr).alloc _ _
          have hG := Bq.new wr (sl8 i C n (.slice none 0 0) i C' n (.slice none 0 0)) 26
          obtain ⟨Z, hZ⟩ : ∃ Z, Z = wr.alloc (.cells (sl8 i C n (.slice none 0 0) i C' n (.slice none 0 0)).toArray 26) := ⟨_, rfl⟩
          have hZs : Z.heap.size = wr.heap.size + 1 := by rw [hZ]; simp
          obtain ⟨G, hGw⟩ : ∃ G, G = wr.heap.size := ⟨_, rfl⟩
          rw [← hZ] at kG hG
          rw [← hGw] at hG hZs ⊢
          rw [show wr.alloc (.cells #[.int .i64 i, .int .i64 C, .int .i64 n, .slice none 0 0, .int .i64 i, .int .i64 C', .int .i64 n, .slice none 0 0] 26) = Z from hZ.symm]
          have HGW := hidq (And.intro hGw (And.intro hZs (Nat.le_trans hs1 kr.below.size)))
          have HKZ := hidq kG
          have HRB := hidq (And.intro hRr (And.intro hBr hKr))
          clear hZ hZs hGw kr hRr hBr hKr kG hs1 hR1 hB1 hK1
          obtain ⟨W0, hW0⟩ : ∃ W0, W0 = wr := ⟨_, rfl⟩
          subst hW0
          have HINV : Hid (∃ ax cx ay cy, Bq Z G (sl8 i C n (.slice ax 0 cx) i C' n (.slice ay 0 cy)) ∧ MR (G + 1) Z (.slice ax 0 cx) (pkl M C (J.take 0)) ∧ MR (G + 1) Z (.slice ay 0 cy) (pkl N C' (J.take 0)) ∧ (∀ y ∈ rb (.slice ax 0 cx), y ∉ rb (.slice ay 0 cy)) ∧ Kept W0 Z) := hidq ⟨none, 0, none, 0, hG, .inl ⟨by simp [pkl], rfl⟩, .inl ⟨by simp [pkl], rfl⟩, fun y hy => by simp [rb] at hy, HKZ.out⟩
          clear hG
          go_wp2_with fail
          go_loopw [10] (fun iv wr => ∃ t : Nat, t ≤ i ∧ iv = .int .i64 t ∧ Hid (∃ ax cx ay cy, Bq wr G (sl8 i C n (.slice ax (t * C) cx) i C' n (.slice ay (t * C') cy)) ∧ MR (G + 1) wr (.slice ax (t * C) cx) (pkl M C (J.take t)) ∧ MR (G + 1) wr (.slice ay (t * C') cy) (pkl N C' (J.take t)) ∧ (∀ y ∈ rb (.slice ax (t * C) cx), y ∉ rb (.slice ay (t * C') cy)) ∧ Kept W0 wr)) (fun iv _ => i - (intOf iv).toNat)
          case atStart => exact ⟨0, Nat.zero_le _, rfl, by rw [Nat.zero_mul, Nat.zero_mul]; exact HINV⟩
          case round =>
            obtain ⟨t, ht, rfl, HV⟩ := hrel
            obtain ⟨ax, cx, ay, cy, bG, mX, mY, hdj, kW⟩ := HV.out
            clear HV HINV HKZ
            have hKt := HRB.out.2.2.trans kW
            obtain ⟨pl, hpl⟩ : ∃ pl, t * C = pl := ⟨_, rfl⟩
            obtain ⟨pl', hpl'⟩ : ∃ pl, t * C' = pl := ⟨_, rfl⟩
            rw [hpl] at bG mX hdj
            rw [hpl'] at bG mY hdj
            by_cases hlt2 : t < i
            · have hBt := HRB.out.2.1.kept kW
              obtain ⟨jn, hjn⟩ : ∃ jn : Nat, J.getD t 0 = (jn : Int) := ⟨(J.getD t 0).toNat, by have := (HIN.out t (by rw [HJK.out]; exact hlt2)).1; omega⟩
              have hjR2 := (HIN.out t (by rw [HJK.out]; exact hlt2)).2
              have hjR : jn < R := by rw [hjn] at hjR2; omega
              have HJT := hidq (show w.cell? ⟨jb, jo + t, none⟩ = some (.int .i64 (jn : Nat)) from by rw [← hjn]; exact HJR.out t (by rw [HJK.out]; exact hlt2))
              have hjt : jb < wr.heap.size := Nat.lt_of_lt_of_le hjb hKt.below.size
              have q1 := (hKt.below.cell (p := ⟨jb, jo + t, none⟩) hjb).trans HJT.out
              have b5 : (t : Int) < (i : Int) := by omega
              have z1 : IntKind.i64.wrap ((t : Int) + 1) = (t : Int) + 1 := by rw [wrap_i64]; omega
              have HTS := hidq (show J.take (t + 1) = J.take t ++ [(jn : Int)] from by rw [← hjn]; exact take_snoc J t (by rw [HJK.out]; exact hlt2))
              have HLX := hidq (show (pkl M C (J.take t)).length = pl from by rw [← hpl]; exact pkl_len R C M hM J HIN.out t (by rw [HJK.out]; omega))
              have HLY := hidq (show (pkl N C' (J.take t)).length = pl' from by rw [← hpl']; exact pkl_len R C' N hN J HIN.out t (by rw [HJK.out]; omega))
              have hplk : pl ≤ 4096 := by
                have : t * C ≤ i * C := Nat.mul_le_mul_right _ ht
                rw [HKC.out.1] at this
                omega
              have hplk' : pl' ≤ 4096 := by
                have : t * C' ≤ i * C' := Nat.mul_le_mul_right _ ht
                rw [HKC.out.2] at this
                omega
              rw [hjn] at hjR2
              have HPL := hidq (And.intro hpl (And.intro hpl' hjn))
              have hW0s := kW.below.size
              clear hpl hpl' hjn
              have kd := (Kept.refl wr).drew
              have HSX : Hid (∀ u, Bq u G (sl8 i C n (.slice ax pl cx) i C' n (.slice ay pl' cy)) → Bq u w.heap.size (sl8 R C n (.slice (some ⟨b, off, none⟩) l cap) R C' n (.slice (some ⟨b', off', none⟩) l' cap')) → u.cell? ⟨jb, jo + t, none⟩ = some (.int .i64 (jn : Nat)) → u.cell? ⟨G, 3, none⟩ = some (.slice ax pl cx) ∧ u.cell? ⟨jb, jo + t, none⟩ = some (.int .i64 (jn : Nat)) ∧ u.cell? ⟨w.heap.size, 0, none⟩ = some (.int .i64 R) ∧ u.cell? ⟨w.heap.size, 1, none⟩ = some (.int .i64 C) ∧ u.cell? ⟨w.heap.size, 2, none⟩ = some (.int .i64 n) ∧ u.cell? ⟨w.heap.size, 3, none⟩ = some (.slice (some ⟨b, off, none⟩) l cap)) := hidq (fun u h1 h2 h3 => ⟨h1.c 3 _ rfl, h3, h2.c 0 _ rfl, h2.c 1 _ rfl, h2.c 2 _ rfl, h2.c 3 _ rfl⟩)
              go_upto_region 17 with fail
              refine wp_region_late [14] (fun u => u.cell? ⟨G, 3, none⟩ = some (.slice ax pl cx) ∧ u.cell? ⟨jb, jo + t, none⟩ = some (.int .i64 (jn : Nat)) ∧ u.cell? ⟨w.heap.size, 0, none⟩ = some (.int .i64 R) ∧ u.cell? ⟨w.heap.size, 1, none⟩ = some (.int .i64 C) ∧ u.cell? ⟨w.heap.size, 2, none⟩ = some (.int .i64 n) ∧ u.cell? ⟨w.heap.size, 3, none⟩ = some (.slice (some ⟨b, off, none⟩) l cap)) (by kernel_rfl) (HSX.out _ (bG.kept kd) (hBt.kept kd) ((kd.below.cell (p := ⟨jb, jo + t, none⟩) hjt).trans q1)) (fun hHeld => ?_)
              refine wpAnyD_take (i := 0) (v := ?_) rfl (by kernel_rfl) (by kernel_rfl) (by kernel_rfl) (by kernel_rfl) (fun _ _ _ h => h) (Or.inl ⟨by rfl, ?hyx0⟩) hHeld ?_
              case hyx0 => (intro w hSw; (try dsimp only at hSw); go_simp; try (with_reducible rfl))
              (try simp only [Act.put, List.getElem_toArray, List.getElem_cons_succ, List.getElem_cons_zero, List.setIfInBounds_toArray, List.set_cons_zero, List.set_cons_succ])
              refine wpAnyD_take (i := 1) (v := ?_) rfl (by kernel_rfl) (by kernel_rfl) (by kernel_rfl) (by kernel_rfl) (fun _ _ _ h => h) (Or.inl ⟨by rfl, ?hyx1⟩) hHeld ?_
              case hyx1 => (intro w hSw; (try dsimp only at hSw); go_simp; try (with_reducible rfl))
              (try simp only [Act.put, List.getElem_toArray, List.getElem_cons_succ, List.getElem_cons_zero, List.setIfInBounds_toArray, List.set_cons_zero, List.set_cons_succ])
              refine wpAnyD_take (i := 2) (v := ?_) rfl (by kernel_rfl) (by kernel_rfl) (by kernel_rfl) (by kernel_rfl) (fun _ _ _ h => h) (Or.inl ⟨by rfl, ?hyx2⟩) hHeld ?_
              case hyx2 => (intro w hSw; (try dsimp only at hSw); go_simp; try (with_reducible rfl))
              (try simp only [Act.put, List.getElem_toArray, List.getElem_cons_succ, List.getElem_cons_zero, List.setIfInBounds_toArray, List.set_cons_zero, List.set_cons_succ])
              refine wpAnyD_take (i := 3) (v := ?_) rfl (by kernel_rfl) (by kernel_rfl) (by kernel_rfl) (by kernel_rfl) (fun _ _ _ h => h) (Or.inl ⟨by rfl, ?hyx3⟩) hHeld ?_
              case hyx3 => (intro w hSw; (try dsimp only at hSw); go_simp; try (with_reducible rfl))
              (try simp only [Act.put, List.getElem_toArray, List.getElem_cons_succ, List.getElem_cons_zero, List.setIfInBounds_toArray, List.set_cons_zero, List.set_cons_succ])
              refine wpAnyD_take (i := 4) (v := ?_) rfl (by kernel_rfl) (by kernel_rfl) (by kernel_rfl) (by kernel_rfl) (fun _ _ _ h => h) (Or.inl ⟨by rfl, ?hyx4⟩) hHeld ?_
              case hyx4 => (intro w hSw; (try dsimp only at hSw); go_simp; try (with_reducible rfl))
              (try simp only [Act.put, List.getElem_toArray, List.getElem_cons_succ, List.getElem_cons_zero, List.setIfInBounds_toArray, List.set_cons_zero, List.set_cons_succ])
              refine wpAnyD_take (i := 5) (v := ?_) rfl (by kernel_rfl) (by kernel_rfl) (by kernel_rfl) (by kernel_rfl) (fun _ _ _ h => h) (Or.inl ⟨by rfl, ?hyx5⟩) hHeld ?_
              case hyx5 => (intro w hSw; (try dsimp only at hSw); go_simp; try (with_reducible rfl))
              (try simp only [Act.put, List.getElem_toArray, List.getElem_cons_succ, List.getElem_cons_zero, List.setIfInBounds_toArray, List.set_cons_zero, List.set_cons_succ])
              refine wpAnyD_take (i := 6) (v := ?_) rfl (by kernel_rfl) (by kernel_rfl) (by kernel_rfl) (by kernel_rfl) (fun _ _ _ h => h) (Or.inl ⟨by rfl, ?hyx6⟩) hHeld ?_
              case hyx6 => (intro w hSw; (try dsimp only at hSw); go_simp; try (with_reducible rfl))
              (try simp only [Act.put, List.getElem_toArray, List.getElem_cons_succ, List.getElem_cons_zero, List.setIfInBounds_toArray, List.set_cons_zero, List.set_cons_succ])
              refine wpAnyD_take (i := 7) (v := ?_) rfl (by kernel_rfl) (by kernel_rfl) (by kernel_rfl) (by kernel_rfl) (fun _ _ _ h => h) (Or.inl ⟨by rfl, ?hyx7⟩) hHeld ?_
              case hyx7 => (intro w hSw; (try dsimp only at hSw); go_simp; try (with_reducible rfl))
              (try simp only [Act.put, List.getElem_toArray, List.getElem_cons_succ, List.getElem_cons_zero, List.setIfInBounds_toArray, List.set_cons_zero, List.set_cons_succ])
              refine wpAnyD_take (i := 8) (v := ?_) rfl (by kernel_rfl) (by kernel_rfl) (by kernel_rfl) (by kernel_rfl) (fun _ _ _ h => h) (Or.inl ⟨by rfl, ?hyx8⟩) hHeld ?_
              case hyx8 => (intro w hSw; (try dsimp only at hSw); go_simp; try (with_reducible rfl))
              (try simp only [Act.put, List.getElem_toArray, List.getElem_cons_succ, List.getElem_cons_zero, List.setIfInBounds_toArray, List.set_cons_zero, List.set_cons_succ])
              refine wpAnyD_step (i := 9) (by kernel_rfl) rfl (fun K hK9 => ?_)
              go_simp
              go_wp2_with fail
              refine (KX.out _ jn (hKt.trans kd) hjR).mono ?_
              rintro e u1 ⟨g, cp, rfl, hg, ho, k1⟩
              refine hK9.out _ _ (HSX.out _ (bG.kept (kd.trans k1)) (hBt.kept (kd.trans k1)) (((kd.trans k1).below.cell (p := ⟨jb, jo + t, none⟩) hjt).trans q1)) (fun hH1 => ?_)
              clear hK9 K
              (try simp only [Act.put, List.getElem_toArray, List.getElem_cons_succ, List.getElem_cons_zero, List.setIfInBounds_toArray, List.set_cons_zero, List.set_cons_succ])
              have hfr : ∀ (x y z t : Value) (u : World), (Instr.field 24 (.agg #[x, y, z, t]) 3).run Try.prog u = .ok t u := fun x y z t u => by kernel_rfl
              refine wpAnyD_take (i := 10) (v := ?_) rfl (by kernel_rfl) (by kernel_rfl) (by kernel_rfl) (by kernel_rfl) (fun _ _ _ h => h) (Or.inl ⟨by rfl, ?hyxb10⟩) hH1 ?_
              case hyxb10 => (intro w hSw; (try dsimp only at hSw); go_simp; (try simp only [hfr, Result.andThen]); try (with_reducible rfl))
              (try simp only [Act.put, List.getElem_toArray, List.getElem_cons_succ, List.getElem_cons_zero, List.setIfInBounds_toArray, List.set_cons_zero, List.set_cons_succ])
              have kd1 := kd.trans k1
              have mX1 := mX.kept kd1
              have mY1 := mY.kept kd1
              have hd1 := kd1.below.size
              have hGl := bG.lt
              obtain ⟨hGw, hZs, hws⟩ := HGW.out
              obtain ⟨g2, cap2, u2, hr, ho2, hg2, hk2, hown, hwh, hbq⟩ := app_cut (G + 1) u1 _ _ _ mX1 g cp C (jrow hM (by omega) hjR2).2 ho hC (by rw [HLX.out]; omega) (by omega)
              rw [HLX.out] at hr
              have bG2 := hbq G _ (by omega) (bG.kept kd1)
              have hB2 := hbq w.heap.size _ (by omega) (hBt.kept kd1)
              have kW2 := hk2 W0 (by omega) (kW.trans kd1)
              have q2 := (((HRB.out.2.2.trans kW2).below.cell (p := ⟨jb, jo + t, none⟩) hjb).trans (HJT.out))
              have HH := hidq hr
              clear hGw hZs hws
              refine wpAnyD_step (i := 11) (by kernel_rfl) rfl (fun K hK9 => ?_)
              rw [if_pos (by rfl)]
              refine oper_append_run _ _ _ rfl _ _ rfl rfl _ _ (HH.out _) ?_
              refine hK9.out _ _ (HSX.out _ bG2 hB2 q2) (fun hH2 => ?_)
              clear hK9 K
              (try simp only [Act.put, List.getElem_toArray, List.getElem_cons_succ, List.getElem_cons_zero, List.setIfInBounds_toArray, List.set_cons_zero, List.set_cons_succ])
              refine wpAnyD_take (i := 12) (v := ?_) rfl (by kernel_rfl) (by kernel_rfl) (by kernel_rfl) (by kernel_rfl) (fun _ _ _ h => h) (Or.inl ⟨by rfl, ?hyxc12⟩) hH2 ?_
              case hyxc12 => (intro w hSw; (try dsimp only at hSw); go_simp; try (with_reducible rfl))
              (try simp only [Act.put, List.getElem_toArray, List.getElem_cons_succ, List.getElem_cons_zero, List.setIfInBounds_toArray, List.set_cons_zero, List.set_cons_succ])
              refine wpAnyD_take (i := 13) (v := ?_) rfl (by kernel_rfl) (by kernel_rfl) (by kernel_rfl) (by kernel_rfl) (fun _ _ _ h => h) (Or.inl ⟨by rfl, ?hyxc13⟩) hH2 ?_
              case hyxc13 => (intro w hSw; (try dsimp only at hSw); go_simp; try (with_reducible rfl))
              (try simp only [Act.put, List.getElem_toArray, List.getElem_cons_succ, List.getElem_cons_zero, List.setIfInBounds_toArray, List.set_cons_zero, List.set_cons_succ])
              have g3 := bG2.c 3 _ rfl
              have gf := bG2.fz 3
              refine wpAnyD_late (i := 14) (by kernel_rfl) rfl rfl (fun K hK9 => ?_)
              go_simp
              refine hK9.out _ _ ?_
              clear hK9 K
              (try simp only [Act.put, List.getElem_toArray, List.getElem_cons_succ, List.getElem_cons_zero, List.setIfInBounds_toArray, List.set_cons_zero, List.set_cons_succ])
              refine wpAnyD_done (by kernel_rfl) ?_ _
              (try simp only [Act.put, List.getElem_toArray, List.getElem_cons_succ, List.getElem_cons_zero, List.setIfInBounds_toArray, List.set_cons_zero, List.set_cons_succ])
              obtain ⟨W1, hW1⟩ : ∃ W1, W1 = u2.setCell ⟨G, 3, none⟩ (.slice (some ⟨g2, 0, none⟩) (pl + C) cap2) := ⟨_, rfl⟩
              rw [← hW1]
              obtain ⟨hGw, hZs, hws⟩ := HGW.out
              have bG3 : Bq W1 G (sl8 i C n (.slice (some ⟨g2, 0, none⟩) (pl + C) cap2) i C' n (.slice ay pl' cy)) := by rw [hW1]; exact bq_set bG2 3 (by simp) _
              have hB3 : Bq W1 w.heap.size (sl8 R C n (.slice (some ⟨b, off, none⟩) l cap) R C' n (.slice (some ⟨b', off', none⟩) l' cap')) := by rw [hW1]; exact hB2.far (by show w.heap.size ≠ G; omega) _
              have kW3 : Kept W0 W1 := by rw [hW1]; exact kW2.setCell (by show W0.heap.size ≤ G; omega) _
              have mX3 : MR (G + 1) W1 (.slice (some ⟨g2, 0, none⟩) (pl + C) cap2) (pkl M C (J.take (t + 1))) := by
                rw [hW1, HTS.out, pkl_snoc]
                exact .inr ⟨g2, cap2, by rw [List.length_append, HLX.out, (jrow hM (by omega) hjR2).2], hg2, ho2.setOther (by show g2 ≠ G; omega) _⟩
              have mY3 : MR (G + 1) W1 (.slice ay pl' cy) (pkl N C' (J.take t)) := by
                rw [hW1]
                refine MR.far ?_ (by show G < G + 1; omega) _
                rcases mY1 with h | ⟨gy, capy, e, hgy, hoy⟩
                · exact .inl h
                · exact .inr ⟨gy, capy, e, hgy, hown _ _ _ hoy (fun hm => hdj _ hm (by rw [e]; simp [rb]))⟩
              have hdj3 : ∀ y ∈ rb (.slice (some ⟨g2, 0, none⟩) (pl + C) cap2), y ∉ rb (.slice ay pl' cy) := fun y hy hy2 => by
                have e : y = g2 := by simpa [rb] using hy
                rcases hwh with h | h
                · exact hdj g2 h (e ▸ hy2)
                · rcases mY1 with ⟨-, h1⟩ | ⟨gy, capy, h1, hgy, hoy⟩
                  · rw [h1] at hy2; simp [rb] at hy2
                  · rw [h1] at hy2
                    have e2 : y = gy := by simpa [rb] using hy2
                    have := hoy.lt
                    omega
              clear hW1 hHeld hH1 hH2 HH hr ho2 hk2 hown hwh hbq bG2 hB2 kW2 q2 g3 gf mX1 mY1 kd1 kd k1 ho hg bG hBt hKt mX mY hdj kW q1 HSX hjt hd1 hg2 hGw hZs hws
              have kd := (Kept.refl W1).drew
              have hKt := HRB.out.2.2.trans kW3
              have hjt : jb < W1.heap.size := Nat.lt_of_lt_of_le hjb hKt.below.size
              have q1 := (hKt.below.cell (p := ⟨jb, jo + t, none⟩) hjb).trans HJT.out
              have HSY : Hid (∀ u, Bq u G (sl8 i C n (.slice (some ⟨g2, 0, none⟩) (pl + C) cap2) i C' n (.slice ay pl' cy)) → Bq u w.heap.size (sl8 R C n (.slice (some ⟨b, off, none⟩) l cap) R C' n (.slice (some ⟨b', off', none⟩) l' cap')) → u.cell? ⟨jb, jo + t, none⟩ = some (.int .i64 (jn : Nat)) → u.cell? ⟨G, 7, none⟩ = some (.slice ay pl' cy) ∧ u.cell? ⟨jb, jo + t, none⟩ = some (.int .i64 (jn : Nat)) ∧ u.cell? ⟨w.heap.size, 4, none⟩ = some (.int .i64 R) ∧ u.cell? ⟨w.heap.size, 5, none⟩ = some (.int .i64 C') ∧ u.cell? ⟨w.heap.size, 6, none⟩ = some (.int .i64 n) ∧ u.cell? ⟨w.heap.size, 7, none⟩ = some (.slice (some ⟨b', off', none⟩) l' cap')) := hidq (fun u h1 h2 h3 => ⟨h1.c 7 _ rfl, h3, h2.c 4 _ rfl, h2.c 5 _ rfl, h2.c 6 _ rfl, h2.c 7 _ rfl⟩)
              go_upto_region 18 with fail
              refine wp_region_late [14] (fun u => u.cell? ⟨G, 7, none⟩ = some (.slice ay pl' cy) ∧ u.cell? ⟨jb, jo + t, none⟩ = some (.int .i64 (jn : Nat)) ∧ u.cell? ⟨w.heap.size, 4, none⟩ = some (.int .i64 R) ∧ u.cell? ⟨w.heap.size, 5, none⟩ = some (.int .i64 C') ∧ u.cell? ⟨w.heap.size, 6, none⟩ = some (.int .i64 n) ∧ u.cell? ⟨w.heap.size, 7, none⟩ = some (.slice (some ⟨b', off', none⟩) l' cap')) (by kernel_rfl) (HSY.out _ (bG3.kept kd) (hB3.kept kd) ((kd.below.cell (p := ⟨jb, jo + t, none⟩) hjt).trans q1)) (fun hHeld => ?_)
              refine wpAnyD_take (i := 0) (v := ?_) rfl (by kernel_rfl) (by kernel_rfl) (by kernel_rfl) (by kernel_rfl) (fun _ _ _ h => h) (Or.inl ⟨by rfl, ?hyy0⟩) hHeld ?_
              case hyy0 => (intro w hSw; (try dsimp only at hSw); go_simp; try (with_reducible rfl))
              (try simp only [Act.put, List.getElem_toArray, List.getElem_cons_succ, List.getElem_cons_zero, List.setIfInBounds_toArray, List.set_cons_zero, List.set_cons_succ])
              refine wpAnyD_take (i := 1) (v := ?_) rfl (by kernel_rfl) (by kernel_rfl) (by kernel_rfl) (by kernel_rfl) (fun _ _ _ h => h) (Or.inl ⟨by rfl, ?hyy1⟩) hHeld ?_
              case hyy1 => (intro w hSw; (try dsimp only at hSw); go_simp; try (with_reducible rfl))
              (try simp only [Act.put, List.getElem_toArray, List.getElem_cons_succ, List.getElem_cons_zero, List.setIfInBounds_toArray, List.set_cons_zero, List.set_cons_succ])
              refine wpAnyD_take (i := 2) (v := ?_) rfl (by kernel_rfl) (by kernel_rfl) (by kernel_rfl) (by kernel_rfl) (fun _ _ _ h => h) (Or.inl ⟨by rfl, ?hyy2⟩) hHeld ?_
              case hyy2 => (intro w hSw; (try dsimp only at hSw); go_simp; try (with_reducible rfl))
              (try simp only [Act.put, List.getElem_toArray, List.getElem_cons_succ, List.getElem_cons_zero, List.setIfInBounds_toArray, List.set_cons_zero, List.set_cons_succ])
              refine wpAnyD_take (i := 3) (v := ?_) rfl (by kernel_rfl) (by kernel_rfl) (by kernel_rfl) (by kernel_rfl) (fun _ _ _ h => h) (Or.inl ⟨by rfl, ?hyy3⟩) hHeld ?_
              case hyy3 => (intro w hSw; (try dsimp only at hSw); go_simp; try (with_reducible rfl))
              (try simp only [Act.put, List.getElem_toArray, List.getElem_cons_succ, List.getElem_cons_zero, List.setIfInBounds_toArray, List.set_cons_zero, List.set_cons_succ])
              refine wpAnyD_take (i := 4) (v := ?_) rfl (by kernel_rfl) (by kernel_rfl) (by kernel_rfl) (by kernel_rfl) (fun _ _ _ h => h) (Or.inl ⟨by rfl, ?hyy4⟩) hHeld ?_
              case hyy4 => (intro w hSw; (try dsimp only at hSw); go_simp; try (with_reducible rfl))
              (try simp only [Act.put, List.getElem_toArray, List.getElem_cons_succ, List.getElem_cons_zero, List.setIfInBounds_toArray, List.set_cons_zero, List.set_cons_succ])
              refine wpAnyD_take (i := 5) (v := ?_) rfl (by kernel_rfl) (by kernel_rfl) (by kernel_rfl) (by kernel_rfl) (fun _ _ _ h => h) (Or.inl ⟨by rfl, ?hyy5⟩) hHeld ?_
              case hyy5 => (intro w hSw; (try dsimp only at hSw); go_simp; try (with_reducible rfl))
              (try simp only [Act.put, List.getElem_toArray, List.getElem_cons_succ, List.getElem_cons_zero, List.setIfInBounds_toArray, List.set_cons_zero, List.set_cons_succ])
              refine wpAnyD_take (i := 6) (v := ?_) rfl (by kernel_rfl) (by kernel_rfl) (by kernel_rfl) (by kernel_rfl) (fun _ _ _ h => h) (Or.inl ⟨by rfl, ?hyy6⟩) hHeld ?_
              case hyy6 => (intro w hSw; (try dsimp only at hSw); go_simp; try (with_reducible rfl))
              (try simp only [Act.put, List.getElem_toArray, List.getElem_cons_succ, List.getElem_cons_zero, List.setIfInBounds_toArray, List.set_cons_zero, List.set_cons_succ])
              refine wpAnyD_take (i := 7) (v := ?_) rfl (by kernel_rfl) (by kernel_rfl) (by kernel_rfl) (by kernel_rfl) (fun _ _ _ h => h) (Or.inl ⟨by rfl, ?hyy7⟩) hHeld ?_
              case hyy7 => (intro w hSw; (try dsimp only at hSw); go_simp; try (with_reducible rfl))
              (try simp only [Act.put, List.getElem_toArray, List.getElem_cons_succ, List.getElem_cons_zero, List.setIfInBounds_toArray, List.set_cons_zero, List.set_cons_succ])
              refine wpAnyD_take (i := 8) (v := ?_) rfl (by kernel_rfl) (by kernel_rfl) (by kernel_rfl) (by kernel_rfl) (fun _ _ _ h => h) (Or.inl ⟨by rfl, ?hyy8⟩) hHeld ?_
              case hyy8 => (intro w hSw; (try dsimp only at hSw); go_simp; try (with_reducible rfl))
              (try simp only [Act.put, List.getElem_toArray, List.getElem_cons_succ, List.getElem_cons_zero, List.setIfInBounds_toArray, List.set_cons_zero, List.set_cons_succ])
              refine wpAnyD_step (i := 9) (by kernel_rfl) rfl (fun K hK9 => ?_)
              go_simp
              go_wp2_with fail
              refine (KY.out _ jn (hKt.trans kd) hjR).mono ?_
              rintro e u3 ⟨g, cp, rfl, hg, ho, k1⟩
              refine hK9.out _ _ (HSY.out _ (bG3.kept (kd.trans k1)) (hB3.kept (kd.trans k1)) (((kd.trans k1).below.cell (p := ⟨jb, jo + t, none⟩) hjt).trans q1)) (fun hH1 => ?_)
              clear hK9 K
              (try simp only [Act.put, List.getElem_toArray, List.getElem_cons_succ, List.getElem_cons_zero, List.setIfInBounds_toArray, List.set_cons_zero, List.set_cons_succ])
              refine wpAnyD_take (i := 10) (v := ?_) rfl (by kernel_rfl) (by kernel_rfl) (by kernel_rfl) (by kernel_rfl) (fun _ _ _ h => h) (Or.inl ⟨by rfl, ?hyyb10⟩) hH1 ?_
              case hyyb10 => (intro w hSw; (try dsimp only at hSw); go_simp; (try simp only [hfr, Result.andThen]); try (with_reducible rfl))
              (try simp only [Act.put, List.getElem_toArray, List.getElem_cons_succ, List.getElem_cons_zero, List.setIfInBounds_toArray, List.set_cons_zero, List.set_cons_succ])
              have kd1 := kd.trans k1
              have mX4 := mX3.kept kd1
              have mY4 := mY3.kept kd1
              have hd1 := kd1.below.size
              have hGl := bG3.lt
              obtain ⟨hGw, hZs, hws⟩ := HGW.out
              obtain ⟨g4, cap4, u4, hr, ho2, hg4, hk2, hown, hwh, hbq⟩ := app_cut (G + 1) u3 _ _ _ mY4 g cp C' (jrow hN (by omega) hjR2).2 ho hC' (by rw [HLY.out]; omega) (by omega)
              rw [HLY.out] at hr
              have bG2 := hbq G _ (by omega) (bG3.kept kd1)
              have hB2 := hbq w.heap.size _ (by omega) (hB3.kept kd1)
              have kW2 := hk2 W0 (by omega) (kW3.trans kd1)
              have q2 := (((HRB.out.2.2.trans kW2).below.cell (p := ⟨jb, jo + t, none⟩) hjb).trans (HJT.out))
              have HH := hidq hr
              clear hGw hZs hws
              refine wpAnyD_step (i := 11) (by kernel_rfl) rfl (fun K hK9 => ?_)
              rw [if_pos (by rfl)]
              refine oper_append_run _ _ _ rfl _ _ rfl rfl _ _ (HH.out _) ?_
              refine hK9.out _ _ (HSY.out _ bG2 hB2 q2) (fun hH2 => ?_)
              clear hK9 K
              (try simp only [Act.put, List.getElem_toArray, List.getElem_cons_succ, List.getElem_cons_zero, List.setIfInBounds_toArray, List.set_cons_zero, List.set_cons_succ])
              refine wpAnyD_take (i := 12) (v := ?_) rfl (by kernel_rfl) (by kernel_rfl) (by kernel_rfl) (by kernel_rfl) (fun _ _ _ h => h) (Or.inl ⟨by rfl, ?hyyc12⟩) hH2 ?_
              case hyyc12 => (intro w hSw; (try dsimp only at hSw); go_simp; try (with_reducible rfl))
              (try simp only [Act.put, List.getElem_toArray, List.getElem_cons_succ, List.getElem_cons_zero, List.setIfInBounds_toArray, List.set_cons_zero, List.set_cons_succ])
              refine wpAnyD_take (i := 13) (v := ?_) rfl (by kernel_rfl) (by kernel_rfl) (by kernel_rfl) (by kernel_rfl) (fun _ _ _ h => h) (Or.inl ⟨by rfl, ?hyyc13⟩) hH2 ?_
              case hyyc13 => (intro w hSw; (try dsimp only at hSw); go_simp; try (with_reducible rfl))
              (try simp only [Act.put, List.getElem_toArray, List.getElem_cons_succ, List.getElem_cons_zero, List.setIfInBounds_toArray, List.set_cons_zero, List.set_cons_succ])
              have g3 := bG2.c 7 _ rfl
              have gf := bG2.fz 7
              refine wpAnyD_late (i := 14) (by kernel_rfl) rfl rfl (fun K hK9 => ?_)
              go_simp
              refine hK9.out _ _ ?_
              clear hK9 K
              (try simp only [Act.put, List.getElem_toArray, List.getElem_cons_succ, List.getElem_cons_zero, List.setIfInBounds_toArray, List.set_cons_zero, List.set_cons_succ])
              refine wpAnyD_done (by kernel_rfl) ?_ _
              (try simp only [Act.put, List.getElem_toArray, List.getElem_cons_succ, List.getElem_cons_zero, List.setIfInBounds_toArray, List.set_cons_zero, List.set_cons_succ])
              obtain ⟨W2, hW2⟩ : ∃ W2, W2 = u4.setCell ⟨G, 7, none⟩ (.slice (some ⟨g4, 0, none⟩) (pl' + C') cap4) := ⟨_, rfl⟩
              rw [← hW2]
              have HRL : Hid (∃ ax cx ay cy, Bq W2 G (sl8 i C n (.slice ax ((t + 1) * C) cx) i C' n (.slice ay ((t + 1) * C') cy)) ∧ MR (G + 1) W2 (.slice ax ((t + 1) * C) cx) (pkl M C (J.take (t + 1))) ∧ MR (G + 1) W2 (.slice ay ((t + 1) * C') cy) (pkl N C' (J.take (t + 1))) ∧ (∀ y ∈ rb (.slice ax ((t + 1) * C) cx), y ∉ rb (.slice ay ((t + 1) * C') cy)) ∧ Kept W0 W2) := by
                obtain ⟨hGw, hZs, hws⟩ := HGW.out
                have hg2u : g2 < u3.heap.size := by
                  rcases mX4 with ⟨-, h1⟩ | ⟨gx, capx, h1, hgx, hox⟩
                  · simp at h1
                  · have e : g2 = gx := by simp at h1; exact h1.1
                    rw [e]; exact hox.lt
                rw [Nat.succ_mul, Nat.succ_mul, HPL.out.1, HPL.out.2.1, hW2]
                refine hidq ⟨some ⟨g2, 0, none⟩, cap2, some ⟨g4, 0, none⟩, cap4, bq_set bG2 7 (by simp) _, MR.far ?_ (by show G < G + 1; omega) _, ?_, fun y hy hy2 => ?_, kW2.setCell (by show W0.heap.size ≤ G; omega) _⟩
                · rcases mX4 with ⟨-, h1⟩ | ⟨gx, capx, h1, hgx, hox⟩
                  · simp at h1
                  · exact .inr ⟨gx, capx, h1, hgx, hown _ _ _ hox (fun hm => hdj3 gx (by rw [h1]; simp [rb]) hm)⟩
                · rw [HTS.out, pkl_snoc]
                  exact .inr ⟨g4, cap4, by rw [List.length_append, HLY.out, (jrow hN (by omega) hjR2).2], hg4, ho2.setOther (by show g4 ≠ G; omega) _⟩
                · have e : y = g2 := by simpa [rb] using hy
                  have e2 : y = g4 := by simpa [rb] using hy2
                  rcases hwh with h | h
                  · exact hdj3 g2 (by simp [rb]) (by rw [← e, e2]; exact h)
                  · omega
              clear hW2 hHeld hH1 hH2 HH hr ho2 hk2 hown hwh hbq bG2 hB2 kW2 q2 g3 gf mX4 mY4 kd1 kd k1 ho hg hKt q1 HSY hjt hd1 hg4 bG3 hB3 kW3 mX3 mY3 hdj3 hfr
              go_wp2_with fail
              go_roundw
              case rel => exact ⟨t + 1, by omega, by go_num, HRL⟩
              case measure => simp [intOf]; omega
            · obtain rfl : t = i := by omega
              have hRt := HRB.out.1.kept kW
              have b5 : ¬ (t : Int) < (t : Int) := by omega
              have HLX := hidq (show (pkl M C (J.take t)).length = pl ∧ (pkl N C' (J.take t)).length = pl' ∧ J.take t = J from ⟨by rw [← hpl]; exact pkl_len R C M hM J HIN.out t (by rw [HJK.out]; omega), by rw [← hpl']; exact pkl_len R C' N hN J HIN.out t (by rw [HJK.out]; omega), by rw [← HJK.out]; exact List.take_length⟩)
              have HXY := hidq (And.intro mX mY)
              have HPL := hidq (And.intro hpl hpl')
              clear mX mY hpl hpl'
              have c0 := bG.c 0 _ rfl
              have c1 := bG.c 1 _ rfl
              have c2 := bG.c 2 _ rfl
              have c3 := bG.c 3 _ rfl
              have c4 := bG.c 4 _ rfl
              have c5 := bG.c 5 _ rfl
              have c6 := bG.c 6 _ rfl
              have c7 := bG.c 7 _ rfl
              have d0 := hRt.c 0 _ rfl
              have d1 := hRt.c 1 _ rfl
              have d2 := hRt.c 2 _ rfl
              have d3 := hRt.c 3 _ rfl
              have d4 := hRt.c 4 _ rfl
              have d5 := hRt.c 5 _ rfl
              have d6 := hRt.c 6 _ rfl
              have d7 := hRt.c 7 _ rfl
              have fz := hRt.fz
              go_wp2_with fail
              have hQ := st8 wr (w.heap.size + 1) _ rfl hRt (.int .i64 t) (.int .i64 C) (.int .i64 n) (.slice ax pl cx) (.int .i64 t) (.int .i64 C') (.int .i64 n) (.slice ay pl' cy)
              have x0 := hQ.c 0 _ rfl
              have x1 := hQ.c 1 _ rfl
              have x2 := hQ.c 2 _ rfl
              have x3 := hQ.c 3 _ rfl
              have x4 := hQ.c 4 _ rfl
              have x5 := hQ.c 5 _ rfl
              have x6 := hQ.c 6 _ rfl
              have x7 := hQ.c 7 _ rfl
              refine bodyPost_ret (v := .tuple #[sv8 t C n (.slice ax pl cx) t C' n (.slice ay pl' cy), .int .i64 0]) (by simp [results, Try.f14, go_sem, x0, x1, x2, x3, x4, x5, x6, x7]) rfl ⟨.inr (.inr (.inr ⟨hkp, HIN.out, HFI.out, ?_⟩)), st8_kept hKt (by omega) _ _ _ _ _ _ _ _⟩
              obtain ⟨hGw, hZs, hws⟩ := HGW.out
              obtain ⟨e1, e2, e3⟩ := HLX.out
              obtain ⟨mX, mY⟩ := HXY.out
              rw [e3] at mX mY e1 e2
              have hp1 : 0 < pl := by rw [← HPL.out.1]; exact Nat.mul_pos hkp hC
              have hp2 : 0 < pl' := by rw [← HPL.out.2]; exact Nat.mul_pos hkp hC'
              rcases mX with ⟨h1, -⟩ | ⟨gx, capx, h1, hgx, hox⟩
              · rw [h1] at e1; simp at e1; omega
              · rcases mY with ⟨h2, -⟩ | ⟨gy, capy, h2, hgy, hoy⟩
                · rw [h2] at e2; simp at e2; omega
                · rw [e1] at h1
                  rw [e2] at h2
                  exact ⟨gx, capx, gy, capy, by rw [HPL.out.1, HPL.out.2, h1, h2], st8_own hox (by omega) _ _ _ _ _ _ _ _, st8_own hoy (by omega) _ _ _ _ _ _ _ _, by omega, by omega⟩
end Go.Proofs.Ytcjgdfnbjbboeaa
