/- DataShards. -/
import Derived.Test.YthjcofdcbinliaaDP5
namespace Go.Proofs.Ythjcofdcbinliaa
open Go.ChangeShapes Go.WideShapes Go.ChangeAt Go.RowKit
set_option linter.unusedVariables false
set_option linter.unusedSimpArgs false

theorem Bp.g1 {g B : Nat} {vP vW : Value} {Z W : World} (h : Bp Z B vP vW) (k : G1w g Z W) (hne : B ≠ g) : Bp W B vP vW := h.on (k.gr.block B h.lt (by simpa using hne))

set_option maxHeartbeats 4000000 in
set_option maxRecDepth 100000 in
theorem putPairs_nil (B G1 C1 : Nat) (vW : Value) (w : World) (hB : Bp w B (.slice (some ⟨G1, 0, none⟩) 1 C1) vW) (h1 : w.cell? ⟨G1, 0, none⟩ = some (.slice none 0 0)) : Calls Try.prog 52 #[.pointer (some ⟨B, 0, none⟩)] w fun e w' => e = .returned (.tuple #[]) ∧ Kept w w' := by
  have HS : Hid (∀ u, Kept w u → u.cell? ⟨B, 2, none⟩ = some (.slice (some ⟨G1, 0, none⟩) 1 C1) ∧ u.cell? ⟨G1, 0, none⟩ = some (.slice none 0 0)) := fun u ku => ⟨(hB.kept ku).c2, (ku.below.cell (World.block_lt_of_cell? _ _ h1)).trans h1⟩
  have KM : Hid (∀ u, Calls Try.prog 96 #[.int .i64 0, .int .i64 0, .int .i64 0] u fun e w' => ∃ ao co, e = .returned (.slice ao 0 co) ∧ Kept u w') := fun u => by
    refine (markPairs_any 0 0 (by omega) (by omega) u).mono ?_
    rintro e w' ⟨v, rfl, hm, kk⟩
    obtain ⟨ao, co, rfl⟩ := (mp_rdp hm).form
    exact ⟨ao, co, rfl, kk⟩
  clear hB h1
  go_enter Try.func52, Try.ntmps52
  go_wp2_with fail
  refine wp_loop_rounds 2 ?_
  rw [rounds_succ]
  obtain ⟨q2, q3⟩ := HS.out w (Kept.refl w)
  go_upto_region 4 with (first | (go_at_call 96; refine (KM.out _).mono ?_; rintro e w1 ⟨ao, co, rfl, k1⟩))
  clear q2 q3
  obtain ⟨q2, q3⟩ := HS.out w1 k1
  go_wp2_with fail
  refine wp_loop_rounds 1 ?_
  rw [rounds_succ]
  go_wp2_with fail
  rw [rounds_succ]
  go_wp2_with fail
  exact bodyPost_end (v := .tuple #[]) (by simp [results, Try.results52, go_sem]) rfl ⟨rfl, k1⟩

theorem apart_one (B G1 C1 G2 C2 k g cap : Nat) (hk : k ≤ 1000) (L : List Int) (hL : L.length = k * 2) (v v2 : Value) (u : World) (hB : Bp u B (.slice (some ⟨G1, 0, none⟩) 1 C1) (.slice (some ⟨G2, 0, none⟩) 1 C2)) (h1 : u.cell? ⟨G1, 0, none⟩ = some v) (h2 : u.cell? ⟨G2, 0, none⟩ = some v2) (hr : Rdp u v k L) (hr2 : Rdp u v2 k L) (hv : (v = .slice none 0 0 ∧ k = 0) ∨ (v = .slice (some ⟨g, 0, none⟩) k cap ∧ OwnS u g cap 2 27 (L.map (Value.int .i64)) ∧ k ≤ cap)) (hne1 : B ≠ g) (hne2 : G1 ≠ g) :
    Calls Try.prog 20 #[.pointer (some ⟨B, 0, none⟩)] u fun e w' => e = .returned (.bool true) ∧ G1w g u w' := by
  have hrf : G1w g u u := ⟨World.grownBy.refl _ _, fun _ => rfl⟩
  refine (apart_pairs B _ _ (fun x => MP 0 x v k (mkp 0 k) ∧ Bp x B (.slice (some ⟨G1, 0, none⟩) 1 C1) (.slice (some ⟨G2, 0, none⟩) 1 C2) ∧ x.cell? ⟨G1, 0, none⟩ = some v ∧ G1w g u x)
    (fun vv x => ∃ G3 C3 lv, vv = .slice (some ⟨G3, 0, none⟩) 1 C3 ∧ x.cell? ⟨G3, 0, none⟩ = some lv ∧ Rdp x lv (k + 96) (mkp 0 (k + 96)) ∧ Rdp x v k (mkp 0 k) ∧ Bp x B (.slice (some ⟨G1, 0, none⟩) 1 C1) (.slice (some ⟨G2, 0, none⟩) 1 C2) ∧ x.cell? ⟨G1, 0, none⟩ = some v ∧ G1w g u x) u hB (fun x h => h.2.1) (fun vv x ⟨_, _, _, _, _, _, _, h, _⟩ => h)
    (fun vv x x' ⟨G3, C3, lv, a1, a2, a3, a4, a5, a6, a7⟩ kk => ⟨G3, C3, lv, a1, (kk.below.cell (World.block_lt_of_cell? _ _ a2)).trans a2, a3.kept kk, a4.kept kk, a5.kept kk, (kk.below.cell (World.block_lt_of_cell? _ _ a6)).trans a6, a7.kept kk⟩)
    (stillPairs_one B G1 C1 G2 C2 k (by omega) L v v2 u hB h1 h2 hr hr2) (fun x kx => ?_) (fun x ⟨b1, b2, b3, b4⟩ => ?_) (fun vv x y ⟨G3, C3, lv, a1, a2, a3, a4, a5, a6, a7⟩ hy => ?_)).mono ?_
  · have c1 := (kx.below.cell (World.block_lt_of_cell? _ _ h1)).trans h1
    rcases hv with ⟨rfl, rfl⟩ | ⟨rfl, ho, hkc⟩
    · refine (putPairs_nil B G1 C1 _ x (hB.kept kx) c1).mono ?_
      rintro e w' ⟨rfl, kk⟩
      exact ⟨rfl, .inl ⟨rfl, rfl, rfl⟩, (hB.kept kx).kept kk, (kk.below.cell (World.block_lt_of_cell? _ _ c1)).trans c1, (hrf.kept kx).kept kk⟩
    · refine (putPairs_one B G1 C1 k g cap (by omega) L hL _ x (hB.kept kx) c1 (ho.kept kx) hne1 hne2).mono ?_
      rintro e w' ⟨rfl, ho', gg⟩
      exact ⟨rfl, .inr ⟨g, cap, rfl, Nat.zero_le _, by rw [List.length_map, mkp_len], hkc, ho'⟩, (hB.kept kx).g1 gg hne1, gg.cell c1 hne2, (hrf.kept kx).trans gg (.inl rfl)⟩
  · have hvv : (v = .slice none 0 0 ∧ k = 0) ∨ v = .slice (some ⟨g, 0, none⟩) k cap := by
      rcases hv with h | ⟨h, -⟩
      · exact .inl h
      · exact .inr h
    refine (growPairs_one B G1 C1 k g cap (by omega) v _ x b2 b3 hvv ⟨b1, by rcases hvv with ⟨h, h'⟩ | h; exact .inl ⟨h', h⟩; exact .inr (.inl h), mp_rdp b1, ⟨World.grownBy.refl _ _, fun _ => rfl⟩⟩ hne1 hne2).mono ?_
    rintro e w' ⟨G3, C3, lv, rfl, a2, a3, a4, a5⟩
    exact ⟨_, rfl, G3, C3, lv, rfl, a2, a3, a4, b2.g1 a5 hne1, a5.cell b3 hne2, b4.trans a5 (.inl rfl)⟩
  · rcases hy with rfl | rfl
    · exact markedPairs_one G1 C1 k (by omega) v x a6 a4
    · subst a1
      exact markedPairs_one G3 C3 (k + 96) (by omega) lv x a2 a3
  · rintro e w' ⟨rfl, vv, G3, C3, lv, a1, a2, a3, a4, a5, a6, a7⟩
    exact ⟨rfl, a7⟩

theorem kept_g1w {a b c : World} {g : Nat} (h : Kept a b) (k : G1w g b c) (hg : a.heap.size ≤ g) : Kept a c :=
  ⟨⟨k.gr.os.trans h.below.os, k.gr.tape.trans h.below.tape, k.gr.output.trans h.below.output, Nat.le_trans h.below.size k.gr.size, fun i hi => (k.gr.block i (Nat.lt_of_lt_of_le hi h.below.size) (by
    intro e
    have : i = g := by simpa using e
    omega)).trans (h.below.block i hi)⟩, fun x => (k.fz x).trans (h.frozen x)⟩

set_option maxHeartbeats 8000000 in
set_option maxRecDepth 100000 in
/-- the law, over what both calls answer -/
theorem shards_walk (n0 p0 q : Int) (k g cap : Nat) (hk : k ≤ 16) (L : List Int) (hL : L.length = k * 2) (w : World)
    (KS : Hid (∀ u : World, Kept w u → Calls Try.prog 10 #[.int .i64 n0, .int .i64 p0] u fun e w' => ∃ a g cap, e = .returned (.tuple #[.slice a k cap, .int .i64 q]) ∧ Rdp w' (.slice a k cap) k L ∧ ((a = none ∧ k = 0 ∧ cap = 0) ∨ (a = some ⟨g, 0, none⟩ ∧ OwnS w' g cap 2 27 (L.map (Value.int .i64)) ∧ k ≤ cap ∧ u.heap.size ≤ g)) ∧ Kept u w'))
    (KR : Hid (∀ u : World, Kept w u → Calls Try.prog 18 #[.int .i64 n0, .int .i64 p0] u fun e w' => ∃ a cap, e = .returned (.tuple #[.slice a k cap, .int .i64 q]) ∧ Rdp w' (.slice a k cap) k L ∧ Kept u w')) :
    Calls Try.prog 6 #[.int .i64 n0, .int .i64 p0] w fun e w' => e = .returned (.bool true) ∧ Kept w w' := by
  have HA : Hid (∀ u, Calls Try.prog 9 #[] u fun e w' => e = .returned (.bool true) ∧ Kept u w') := fun u => dalive_true u
  have hEQ := eql_pr
  have e1 : (q != q) = false := by simp
  have e2 : ((k : Int) != (k : Int)) = false := by simp
  go_enter Try.func6, Try.ntmps6
  go_wp2_with fail
  refine (HA.out _).mono ?_
  rintro e w1 ⟨rfl, k1⟩
  go_wp2_with fail
  refine (KS.out _ k1).mono ?_
  rintro e w2 ⟨a, g, cap, rfl, hr, hcase, k2⟩
  have kk2 := k1.trans k2
  go_wp2_with fail
  refine (KR.out _ kk2).mono ?_
  rintro e w3 ⟨a', cap', rfl, hr', k3⟩
  have hr3 := hr.kept k3
  have kk3 := kk2.trans k3
  have H3 : Hid (Rdp w3 (.slice a k cap) k L ∧ Rdp w3 (.slice a' k cap') k L ∧ Kept w w3 ∧ ((a = none ∧ k = 0 ∧ cap = 0) ∨ (a = some ⟨g, 0, none⟩ ∧ OwnS w3 g cap 2 27 (L.map (Value.int .i64)) ∧ k ≤ cap ∧ w.heap.size ≤ g))) := ⟨hr3, hr', kk3, by
    rcases hcase with h | ⟨h4, h5, h6, h7⟩
    · exact .inl h
    · exact .inr ⟨h4, h5.kept k3, h6, Nat.le_trans k1.below.size h7⟩⟩
  clear hr hr' hr3 hcase k1 k2 k3 kk2 kk3 KS KR
  go_wp2_with fail
  go_loopw [9] (fun iv wr => ∃ i : Nat, i ≤ k ∧ iv = .int .i64 i ∧ Kept w3 wr) (fun iv _ => k - (intOf iv).toNat)
  case atStart => exact ⟨0, Nat.zero_le _, rfl, Kept.refl _⟩
  case round =>
    obtain ⟨i, hi, rfl, kr⟩ := hrel
    by_cases hlt : i < k
    · obtain ⟨r1, r2, -, -⟩ := H3.out
      rcases r1 with ⟨e, -⟩ | ⟨g1, c1, eq1, b1, r1⟩
      · omega
      rcases r2 with ⟨e, -⟩ | ⟨g2, c2, eq2, b2, r2⟩
      · omega
      simp only [Value.slice.injEq] at eq1 eq2
      obtain ⟨rfl, -, rfl⟩ := eq1
      obtain ⟨rfl, -, rfl⟩ := eq2
      have q1 := (kr.below.cell (p := ⟨g1, i * 2, none⟩) b1).trans (r1 (i * 2) (by omega))
      have q2 := (kr.below.cell (p := ⟨g2, i * 2, none⟩) b2).trans (r2 (i * 2) (by omega))
      have q3 := (kr.below.cell (p := ⟨g1, i * 2 + 1, none⟩) b1).trans (r1 (i * 2 + 1) (by omega))
      have q4 := (kr.below.cell (p := ⟨g2, i * 2 + 1, none⟩) b2).trans (r2 (i * 2 + 1) (by omega))
      clear r1 r2
      generalize L.getD (i * 2) 0 = x at *
      generalize L.getD (i * 2 + 1) 0 = y at *
      have e3 : (x == x) = true := by simp
      have e4 : (y == y) = true := by simp
      have b4 : (i : Int) < (k : Int) := by omega
      have z1 : IntKind.i64.wrap ((i : Int) + 1) = (i : Int) + 1 := by rw [wrap_i64]; omega
      go_upto_region 10 with fail
      go_quiet (fail)
      go_wp2_with fail
      go_roundw
      case rel => exact ⟨i + 1, by omega, by go_num, by first | exact kr | exact kr.drew | exact kr.drewN _⟩
      case measure => simp [intOf]; omega
    · obtain rfl : i = k := by omega
      go_upto_region 13 with fail
      have hBk : Bp (wr.alloc (.cells #[.slice none 0 0, .slice none 0 0, .slice none 0 0, .slice none 0 0, .slice none 0 0, .slice none 0 0, .slice none 0 0, .slice none 0 0, .slice none 0 0, .slice none 0 0, .slice none 0 0, .slice none 0 0, .slice none 0 0, .slice none 0 0, .slice none 0 0, .slice none 0 0] 57)) wr.heap.size (.slice none 0 0) (.slice none 0 0) := ⟨by simp [go_sem], by simp [go_sem], by simp [go_sem], by simp [go_sem], by simp [go_sem], by simp [go_sem], by simp [go_sem], by simp [go_sem], by simp [go_sem]⟩
      have hfz : ∀ o, (wr.alloc (.cells #[.slice none 0 0, .slice none 0 0, .slice none 0 0, .slice none 0 0, .slice none 0 0, .slice none 0 0, .slice none 0 0, .slice none 0 0, .slice none 0 0, .slice none 0 0, .slice none 0 0, .slice none 0 0, .slice none 0 0, .slice none 0 0, .slice none 0 0, .slice none 0 0] 57)).frozen? ⟨wr.heap.size, o, none⟩ = false := fun o => by simp [go_sem]
      have kY := kr.alloc #[.slice none 0 0, .slice none 0 0, .slice none 0 0, .slice none 0 0, .slice none 0 0, .slice none 0 0, .slice none 0 0, .slice none 0 0, .slice none 0 0, .slice none 0 0, .slice none 0 0, .slice none 0 0, .slice none 0 0, .slice none 0 0, .slice none 0 0, .slice none 0 0] 57
      obtain ⟨Y, hY⟩ : ∃ Y, Y = wr.alloc (.cells #[.slice none 0 0, .slice none 0 0, .slice none 0 0, .slice none 0 0, .slice none 0 0, .slice none 0 0, .slice none 0 0, .slice none 0 0, .slice none 0 0, .slice none 0 0, .slice none 0 0, .slice none 0 0, .slice none 0 0, .slice none 0 0, .slice none 0 0, .slice none 0 0] 57) := ⟨_, rfl⟩
      obtain ⟨B, hBe⟩ : ∃ B, B = wr.heap.size := ⟨_, rfl⟩
      have hB3 : w3.heap.size ≤ B := by rw [hBe]; exact kr.below.size
      rw [← hY] at hBk hfz kY ⊢
      rw [← hBe] at hBk hfz ⊢
      clear hY hBe kr
      obtain ⟨r1, -, kw3, hcs⟩ := H3.out
      have KB := hidq (bookPairs_one B i (by omega) L hL (.slice a i cap) Y hBk hfz (r1.kept kY))
      have kwY := kw3.trans kY
      have hBw : w.heap.size ≤ B := Nat.le_trans kw3.below.size hB3
      clear hBk hfz
      go_wp2_with fail
      refine KB.out.mono ?_
      rintro e w5 ⟨G1, C1, G2, C2, v2, rfl, hB5, hG1, c1, c2, hr5, hr52, g5⟩
      have kw5 := kept_g1w kwY g5 hBw
      rcases hcs with ⟨ha, hi0, hc0⟩ | ⟨ha, ho, hkc, hgw⟩
      · have hG1lt := World.block_lt_of_cell? _ _ c1
        have KA := hidq (apart_one B G1 C1 G2 C2 i w5.heap.size cap (by omega) L hL _ v2 w5 hB5 c1 c2 hr5 hr52 (.inl ⟨by rw [ha, hi0, hc0], hi0⟩) (by have := hB5.lt; omega) (by have : G1 < w5.heap.size := hG1lt; omega))
        go_wp2_with fail
        refine KA.out.mono ?_
        rintro e w6 ⟨rfl, g6⟩
        go_wp2
        go_ret
        exact ⟨rfl, kept_g1w kw5 g6 kw5.below.size⟩
      · have hglt := ho.lt
        have hgB : B ≠ g := by omega
        have hgG : G1 ≠ g := by have := kY.below.size; omega
        have ho5 : OwnS w5 g cap 2 27 (L.map (Value.int .i64)) := (ho.kept kY).on (g5.gr.block g (Nat.lt_of_lt_of_le hglt kY.below.size) (by simpa using fun e => hgB e.symm))
        have KA := hidq (apart_one B G1 C1 G2 C2 i g cap (by omega) L hL _ v2 w5 hB5 c1 c2 hr5 hr52 (.inr ⟨by rw [ha], ho5, hkc⟩) hgB hgG)
        go_wp2_with fail
        refine KA.out.mono ?_
        rintro e w6 ⟨rfl, g6⟩
        go_wp2
        go_ret
        exact ⟨rfl, kept_g1w kw5 g6 hgw⟩

theorem dataShards_true (n0 p0 : Int) (w : World) : Calls Try.prog 6 #[.int .i64 n0, .int .i64 p0] w fun e w' => e = .returned (.bool true) ∧ Kept w w' := by
  have err : ∀ q : Int, ((n0 < 0 ∨ p0 < 1) ∧ q = 1 ∨ ¬ (n0 < 0 ∨ p0 < 1) ∧ (4096 < n0 ∨ 16 < p0) ∧ q = 2) → Calls Try.prog 6 #[.int .i64 n0, .int .i64 p0] w fun e w' => e = .returned (.bool true) ∧ Kept w w' := fun q hq =>
    shards_walk n0 p0 q 0 0 0 (by omega) [] rfl w
      (fun u _ => (shards_e n0 p0 q hq u).mono fun e w' ⟨h1, h2⟩ => ⟨none, 0, 0, h1, .inl ⟨rfl, rfl⟩, .inl ⟨rfl, rfl, rfl⟩, h2⟩)
      (fun u _ => (rshards_e n0 p0 q hq u).mono fun e w' ⟨h1, h2⟩ => ⟨none, 0, h1, .inl ⟨rfl, rfl⟩, h2⟩)
  by_cases h1 : n0 < 0 ∨ p0 < 1
  · exact err 1 (.inl ⟨h1, rfl⟩)
  · by_cases h2 : 4096 < n0 ∨ 16 < p0
    · exact err 2 (.inr ⟨h1, h2, rfl⟩)
    · obtain ⟨n, rfl⟩ : ∃ n : Nat, n0 = n := ⟨n0.toNat, by omega⟩
      obtain ⟨p, rfl⟩ : ∃ p : Nat, p0 = p := ⟨p0.toNat, by omega⟩
      refine shards_walk n p 0 p 0 0 (by omega) (shp n p p) (shp_len n p p) w (fun u _ => ?_) (fun u _ => ?_)
      · refine (shards_ok n p (by omega) (by omega) (by omega) u).mono ?_
        rintro e w' ⟨V, rfl, hP, hO, kk⟩
        have hV := pt_shp hP
        subst hV
        have hs := ownv_s (by omega) hO
        exact ⟨_, u.heap.size, p, rfl, .inr ⟨_, _, rfl, hO.lt, fun j hj => owns_int hs j (by rw [shp_len]; exact hj)⟩, .inr ⟨rfl, hs, Nat.le_refl _, Nat.le_refl _⟩, kk⟩
      · refine (rshards_ok n p (by omega) (by omega) (by omega) u).mono ?_
        rintro e w' ⟨v, rfl, hM, kk⟩
        obtain ⟨a, c, rfl⟩ := (mp_rdp hM).form
        exact ⟨a, c, rfl, mp_rdp hM, kk⟩
end Go.Proofs.Ythjcofdcbinliaa
