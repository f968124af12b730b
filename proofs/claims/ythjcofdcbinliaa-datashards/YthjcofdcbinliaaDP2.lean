/- The laws' book, one list of pairs: append of pairs; still, put, grow, marked. -/
import Derived.Test.YthjcofdcbinliaaDP1
import Derived.Test.YthjcofdcbinliaaT4
namespace Go.Proofs.Ythjcofdcbinliaa
open Go.ChangeShapes Go.WideShapes Go.ChangeAt Go.RowKit
set_option linter.unusedVariables false
set_option linter.unusedSimpArgs false

/-- Some more elements behind such a row. -/
theorem app_elems (t e : TypeId) (ht : Try.prog.underlying t = some (.slice e)) (z : Value) (sz by8 : Nat) (hinf : (Try.prog.info? e).map (fun i => (i.zero, i.size, i.bytes)) = some (some z, sz, by8)) (hz : z.cells.size = sz) (hby : by8 ≤ 64)
    (H : Nat) (w : World) (lv : Value) (k : Nat) (V : List Value) (hM : MS sz e H w lv k V) (ad : Addr) (m c : Nat) (hm : 0 < m) (news : List Value) (hn : news.length = m * sz) (hcell : ∀ j u, news[j]? = some u → w.cell? (ad.add j) = some u) (h1 : ∀ u ∈ news, u.oneCell' = true) (hH : H ≤ w.heap.size) (hlen : k + m < 10000000) :
    ∃ v' w', (∀ ty, (Builtin.append_ #[t, t] ty #[lv, .slice (some ad) m c]).run Try.prog w = .ok v' w') ∧ MS sz e H w' v' (k + m) (V ++ news) ∧ ((Kept w w' ∧ ∃ c', v' = .slice (some ⟨w.heap.size, 0, none⟩) (k + m) c') ∨ (∃ g cap, lv = .slice (some ⟨g, 0, none⟩) k cap ∧ v' = .slice (some ⟨g, 0, none⟩) (k + m) cap ∧ Grw g w w')) := by
  obtain ⟨i, hi, hz2, hs, hb⟩ := info_parts hinf
  have hVl := hM.len
  have hS : Src Try.prog i.size t (.slice (some ad) m c) m news w := Src.ofSlice w ht ad m c news (by rw [hs, hn]) hcell h1
  have hnl : (V ++ news).length = (k + m) * sz := by rw [List.length_append, hVl, hn, Nat.add_mul]
  rcases hM with ⟨rfl, rfl, rfl⟩ | ⟨g, cap, rfl, hg, -, hkc, hO⟩
  · obtain ⟨C, hC⟩ : ∃ C, grownCap w (0 + m) 0 e = C := ⟨_, rfl⟩
    have hC1 : 0 + m ≤ C := by rw [← hC]; exact grownCap_ge _ _ _ _
    have hC2 : C ≤ maxLen := by rw [← hC]; exact grownCap_le_maxLen _ _ _ _ (by simp [maxLen]; omega)
    have hN := ownS_new w.drew e z sz hz news m C hn (by omega) hC2
    have hKN : Kept w (w.drew.alloc (.cells (news.toArray ++ Builtin.zeroCells z.cells (C - m)) e)) := (Kept.refl w).drew.alloc _ _
    refine ⟨_, _, fun ty => ?_, .inr ⟨w.heap.size, C, rfl, by omega, by simpa using hnl, by omega, by simpa using hN⟩, .inl ⟨hKN, _, rfl⟩⟩
    have := run_append_grow_src w t t ty e i z ht hi hz2 none 0 0 [] (by simpa using run_firstCells_none (P := Try.prog) w.drew i.size 0 0 0) (.slice (some ad) m c) m news hS (by omega) (by omega) (growslice_fits (by omega) (by rw [hb]; exact Nat.le_trans (Nat.mul_le_mul_left _ hby) (by omega)))
    rw [hC] at this
    rw [this]
    simp
  · by_cases hr : k + m ≤ cap
    · have hroom : V.length + news.length ≤ cap * sz := by
        rw [hVl, hn, ← Nat.add_mul]
        exact Nat.mul_le_mul_right _ hr
      have hG := (Grw.refl g w).setCells news V.length
      refine ⟨_, w.setCells g V.length news, fun ty => ?_, .inr ⟨g, cap, rfl, hg, hnl, hr, hO.pushes news hroom⟩, .inr ⟨g, cap, rfl, rfl, hG⟩⟩
      · have := run_append_room_src w t t ty e i ht hi g 0 k cap (.slice (some ad) m c) m news hS hr (fun j hj => hO.some _ (by rw [hs, ← hVl]; omega)) (fun j hj => hO.free _)
        rw [this, hs, hVl]
        simp
    · obtain ⟨C, hC⟩ : ∃ C, grownCap w (k + m) cap e = C := ⟨_, rfl⟩
      have hC1 : k + m ≤ C := by rw [← hC]; exact grownCap_ge _ _ _ _
      have hC2 : C ≤ maxLen := by rw [← hC]; exact grownCap_le_maxLen _ _ _ _ (by simp [maxLen]; omega)
      have hN := ownS_new w.drew e z sz hz (V ++ news) (k + m) C hnl hC1 hC2
      have hKN : Kept w (w.drew.alloc (.cells ((V ++ news).toArray ++ Builtin.zeroCells z.cells (C - (k + m))) e)) := (Kept.refl w).drew.alloc _ _
      refine ⟨_, _, fun ty => ?_, .inr ⟨w.heap.size, C, rfl, by omega, hnl, hC1, by simpa using hN⟩, .inl ⟨hKN, _, rfl⟩⟩
      have hcl : cap < k + m := by omega
      have := run_append_grow_src w t t ty e i z ht hi hz2 (some ⟨g, 0, none⟩) k cap V (run_firstCells_some (P := Try.prog) w.drew i.size k ⟨g, 0, none⟩ k cap V (by rw [hs]; exact hVl) (fun j u hu => by rw [Addr.add_lit, Nat.zero_add]; exact hO.cell j u hu)) (.slice (some ad) m c) m news hS hcl (by omega) (growslice_fits hcl (by rw [hb]; exact Nat.le_trans (Nat.mul_le_mul_left _ hby) (by omega)))
      rw [hC] at this
      rw [this]
/-- Some more pairs. -/
theorem app_prs (H : Nat) (w : World) (lv : Value) (k : Nat) (L : List Int) (hM : MP H w lv k L) (v2 : Value) (m : Nat) (hm : 0 < m) (N : List Int) (hN : Rdp w v2 m N) (hl : N.length = m * 2) (hH : H ≤ w.heap.size) (hlen : k + m < 10000000) :
    ∃ v' w', (∀ ty, (Builtin.append_ #[23, 23] ty #[lv, v2]).run Try.prog w = .ok v' w') ∧ MP H w' v' (k + m) (L ++ N) ∧ ((Kept w w' ∧ ∃ c', v' = .slice (some ⟨w.heap.size, 0, none⟩) (k + m) c') ∨ (∃ g cap, lv = .slice (some ⟨g, 0, none⟩) k cap ∧ v' = .slice (some ⟨g, 0, none⟩) (k + m) cap ∧ Grw g w w')) := by
  rcases hN with ⟨rfl, -⟩ | ⟨g, cap, rfl, hg, hc⟩
  · omega
  have := app_elems 23 27 l2i_under (.agg #[.int .i64 0, .int .i64 0]) 2 16 a2i_info rfl (by decide) H w lv k _ hM ⟨g, 0, none⟩ m cap hm (N.map (Value.int .i64)) (by rw [List.length_map, hl]) (fun j u hj => by
    rw [Addr.add_lit, Nat.zero_add]
    rw [List.getElem?_map] at hj
    by_cases hjl : j < N.length
    · rw [List.getElem?_eq_getElem hjl] at hj
      cases hj
      rw [hc j (by omega), List.getD_eq_getElem?_getD, List.getElem?_eq_getElem hjl]
      rfl
    · rw [List.getElem?_eq_none (by omega)] at hj
      cases hj) (fun u hu => by obtain ⟨x, -, rfl⟩ := List.mem_map.1 hu; rfl) hH hlen
  unfold MP
  rw [List.map_append]
  exact this

/-- the other kinds are empty; one list of pairs -/
structure Bp (u : World) (B : Nat) (vP vW : Value) : Prop where
  c0 : u.cell? ⟨B, 0, none⟩ = some (.slice none 0 0)
  c2 : u.cell? ⟨B, 2, none⟩ = some vP
  c3 : u.cell? ⟨B, 3, none⟩ = some vW
  c4 : u.cell? ⟨B, 4, none⟩ = some (.slice none 0 0)
  c6 : u.cell? ⟨B, 6, none⟩ = some (.slice none 0 0)
  c8 : u.cell? ⟨B, 8, none⟩ = some (.slice none 0 0)
  c10 : u.cell? ⟨B, 10, none⟩ = some (.slice none 0 0)
  c12 : u.cell? ⟨B, 12, none⟩ = some (.slice none 0 0)
  c14 : u.cell? ⟨B, 14, none⟩ = some (.slice none 0 0)
theorem Bp.lt {u : World} {B : Nat} {vP vW : Value} (h : Bp u B vP vW) : B < u.heap.size := World.block_lt_of_cell? _ _ h.c0
theorem Bp.on {u u' : World} {B : Nat} {vP vW : Value} (h : Bp u B vP vW) (k : u'.heap[B]? = u.heap[B]?) : Bp u' B vP vW :=
  ⟨(World.cell?_of_block (w := u) (a := ⟨B, 0, none⟩) k).trans h.c0, (World.cell?_of_block (w := u) (a := ⟨B, 2, none⟩) k).trans h.c2, (World.cell?_of_block (w := u) (a := ⟨B, 3, none⟩) k).trans h.c3, (World.cell?_of_block (w := u) (a := ⟨B, 4, none⟩) k).trans h.c4, (World.cell?_of_block (w := u) (a := ⟨B, 6, none⟩) k).trans h.c6, (World.cell?_of_block (w := u) (a := ⟨B, 8, none⟩) k).trans h.c8, (World.cell?_of_block (w := u) (a := ⟨B, 10, none⟩) k).trans h.c10, (World.cell?_of_block (w := u) (a := ⟨B, 12, none⟩) k).trans h.c12, (World.cell?_of_block (w := u) (a := ⟨B, 14, none⟩) k).trans h.c14⟩
theorem Bp.kept {u u' : World} {B : Nat} {vP vW : Value} (h : Bp u B vP vW) (k : Kept u u') : Bp u' B vP vW := h.on (k.below.block B h.lt)

set_option maxHeartbeats 4000000 in
set_option maxRecDepth 100000 in
theorem stillPairs_one (B G1 C1 G2 C2 k : Nat) (hk : k ≤ 1000000) (L : List Int) (v v' : Value) (w : World) (hB : Bp w B (.slice (some ⟨G1, 0, none⟩) 1 C1) (.slice (some ⟨G2, 0, none⟩) 1 C2)) (h1 : w.cell? ⟨G1, 0, none⟩ = some v) (h2 : w.cell? ⟨G2, 0, none⟩ = some v') (hv : Rdp w v k L) (hv' : Rdp w v' k L) : Calls Try.prog 44 #[.pointer (some ⟨B, 0, none⟩)] w fun e w' => e = .returned (.bool true) ∧ Kept w w' := by
  obtain ⟨a, c, rfl⟩ := hv.form
  obtain ⟨a', c', rfl⟩ := hv'.form
  have HS : Hid (∀ u, Kept w u → u.cell? ⟨B, 2, none⟩ = some (.slice (some ⟨G1, 0, none⟩) 1 C1) ∧ u.cell? ⟨B, 3, none⟩ = some (.slice (some ⟨G2, 0, none⟩) 1 C2) ∧ u.cell? ⟨G1, 0, none⟩ = some (.slice a k c) ∧ u.cell? ⟨G2, 0, none⟩ = some (.slice a' k c')) := fun u ku => ⟨(hB.kept ku).c2, (hB.kept ku).c3, (ku.below.cell (World.block_lt_of_cell? _ _ h1)).trans h1, (ku.below.cell (World.block_lt_of_cell? _ _ h2)).trans h2⟩
  have KS : Hid (∀ u, Kept w u → Calls Try.prog 88 #[.slice a k c, .slice a' k c'] u fun e w' => e = .returned (.bool true) ∧ Kept u w') := fun u ku => samePairs_any k hk L _ _ u (hv.kept ku) (hv'.kept ku)
  clear hv hv' h1 h2 hB
  obtain ⟨q2, q3, q4, q5⟩ := HS.out w (Kept.refl w)
  go_enter Try.func44, Try.ntmps44
  go_wp2_with fail
  clear q2 q3 q4 q5
  go_loopw [3] (fun iv wr => ∃ i : Nat, i ≤ 1 ∧ iv = .int .i64 i ∧ Kept w wr) (fun iv _ => 1 - (intOf iv).toNat)
  case atStart => exact ⟨0, Nat.zero_le _, rfl, Kept.refl w⟩
  case round =>
    obtain ⟨i, hi, rfl, kr⟩ := hrel
    obtain ⟨q2, q3, q4, q5⟩ := HS.out wr kr
    rcases (show i = 0 ∨ i = 1 by omega) with rfl | rfl
    · rw [show ((0 : Nat) : Int) = 0 from rfl]
      have kd := kr.drew
      have HK := HS.out wr.drew kd
      go_upto_region 4 with fail
      go_region_held (fun u => Kept w u ∧ u.cell? ⟨B, 2, none⟩ = some (.slice (some ⟨G1, 0, none⟩) 1 C1) ∧ u.cell? ⟨B, 3, none⟩ = some (.slice (some ⟨G2, 0, none⟩) 1 C2) ∧ u.cell? ⟨G1, 0, none⟩ = some (.slice a k c) ∧ u.cell? ⟨G2, 0, none⟩ = some (.slice a' k c')) (first | assumption | exact ⟨kd, HK⟩ | exact ⟨by assumption, HS.out _ (by assumption)⟩) (first | (go_at_call 88; refine (KS.out _ (by first | assumption | exact kd)).mono ?_; rintro e w1 ⟨rfl, k1⟩; have k2 := kd.trans k1; have e0 := HS.out _ k2))
      go_wp2_with fail
      go_roundw
      case rel => exact ⟨1, by omega, by go_num, k2⟩
      case measure => simp [intOf]
    · rw [show ((1 : Nat) : Int) = 1 from rfl]
      go_wp2
      go_ret
      exact ⟨rfl, kr⟩

set_option maxHeartbeats 4000000 in
set_option maxRecDepth 100000 in
theorem markedPairs_one (G1 C1 k : Nat) (hk : k ≤ 1000000) (v : Value) (w : World) (h1 : w.cell? ⟨G1, 0, none⟩ = some v) (hv : Rdp w v k (mkp 0 k)) : Calls Try.prog 68 #[.slice (some ⟨G1, 0, none⟩) 1 C1] w fun e w' => e = .returned (.bool true) ∧ Kept w w' := by
  obtain ⟨a, c, rfl⟩ := hv.form
  have HS : Hid (∀ u, Kept w u → u.cell? ⟨G1, 0, none⟩ = some (.slice a k c)) := fun u ku => (ku.below.cell (World.block_lt_of_cell? _ _ h1)).trans h1
  have KM : Hid (∀ u, Kept w u → Calls Try.prog 96 #[.int .i64 0, .int .i64 0, .int .i64 (k : Int)] u fun e w' => ∃ ao co, e = .returned (.slice ao k co) ∧ Rdp w' (.slice ao k co) k (mkp 0 k) ∧ Kept u w') := fun u ku => by
    refine (markPairs_any 0 k (by omega) hk u).mono ?_
    rintro e w' ⟨v, rfl, hm, kk⟩
    obtain ⟨ao, co, rfl⟩ := (mp_rdp hm).form
    exact ⟨ao, co, rfl, mp_rdp hm, kk⟩
  have KS : Hid (∀ u v2, Kept w u → Rdp u v2 k (mkp 0 k) → Calls Try.prog 88 #[.slice a k c, v2] u fun e w' => e = .returned (.bool true) ∧ Kept u w') := fun u v2 ku h2 => samePairs_any k hk _ _ _ u (hv.kept ku) h2
  clear hv h1
  go_enter Try.func68, Try.ntmps68
  go_wp2_with fail
  go_loopw [3] (fun iv wr => ∃ i : Nat, i ≤ 1 ∧ iv = .int .i64 i ∧ Kept w wr) (fun iv _ => 1 - (intOf iv).toNat)
  case atStart => exact ⟨0, Nat.zero_le _, rfl, Kept.refl w⟩
  case round =>
    obtain ⟨i, hi, rfl, kr⟩ := hrel
    have q4 := HS.out wr kr
    rcases (show i = 0 ∨ i = 1 by omega) with rfl | rfl
    · rw [show ((0 : Nat) : Int) = 0 from rfl]
      have kd := kr.drew
      have HK := HS.out wr.drew kd
      go_upto_region 4 with fail
      go_region_held (fun u => Kept w u ∧ u.cell? ⟨G1, 0, none⟩ = some (.slice a k c)) (first | assumption | exact ⟨kd, HK⟩ | exact ⟨by assumption, HS.out _ (by assumption)⟩) (first | (go_at_call 96; refine (KM.out _ (by first | assumption | exact kd)).mono ?_; rintro e w1 ⟨ao, co, rfl, hr1, k1⟩; have k2 := kd.trans k1; have e0 := HS.out _ k2) | (go_at_call 88; refine (KS.out _ _ k2 hr1).mono ?_; rintro e w2 ⟨rfl, k3⟩; have k4 := k2.trans k3; have e1 := HS.out _ k4))
      go_wp2_with fail
      go_roundw
      case rel => exact ⟨1, by omega, by go_num, k4⟩
      case measure => simp [intOf]
    · rw [show ((1 : Nat) : Int) = 1 from rfl]
      go_wp2
      go_ret
      exact ⟨rfl, kr⟩

/-- a list whose first i pairs are marks -/
structure Mq (k i : Nat) (V : List Int) : Prop where
  len : V.length = k * 2
  at' : ∀ j, j < i → V.getD (j * 2) 0 = -1 ∧ V.getD (j * 2 + 1) 0 = ((0 + j : Nat) : Int)
theorem Mq.step {k i : Nat} {V : List Int} (h : Mq k i V) (hi : i < k) : Mq k (i + 1) ((V.set (i * 2) (-1)).set (i * 2 + 1) ((0 + i : Nat) : Int)) := by
  have hl := h.len
  refine ⟨by simpa using hl, fun j hj => ?_⟩
  have A : ∀ x, ((V.set (i * 2) (-1)).set (i * 2 + 1) ((0 + i : Nat) : Int)).getD x 0 = if x = i * 2 + 1 then ((0 + i : Nat) : Int) else if x = i * 2 then -1 else V.getD x 0 := fun x => by
    rw [dsetD _ _ _ _ (by simp only [List.length_set]; omega), dsetD _ _ _ _ (by omega)]
  rw [A, A]
  by_cases e : j = i
  · subst e
    rw [if_neg (by omega), if_pos rfl, if_pos rfl]
    exact ⟨rfl, rfl⟩
  · rw [if_neg (by omega), if_neg (by omega), if_neg (by omega), if_neg (by omega)]
    exact h.at' j (by omega)
theorem mq_end {k : Nat} {V : List Int} (h : Mq k k V) : V = mkp 0 k := by
  refine List.ext_getElem (by rw [h.len, mkp_len]) (fun q h1 h2 => ?_)
  have hk : q < k * 2 := by rw [h.len] at h1; exact h1
  have e1 : V[q] = V.getD q 0 := by rw [List.getD_eq_getElem?_getD, List.getElem?_eq_getElem h1]; rfl
  have e2 : (mkp 0 k)[q] = (mkp 0 k).getD q 0 := by rw [List.getD_eq_getElem?_getD, List.getElem?_eq_getElem h2]; rfl
  rw [e1, e2]
  obtain ⟨j, rfl | rfl⟩ : ∃ j, q = j * 2 ∨ q = j * 2 + 1 := ⟨q / 2, by omega⟩
  · rw [(h.at' j (by omega)).1, (mkp_get 0 k j (by omega)).1]
  · rw [(h.at' j (by omega)).2, (mkp_get 0 k j (by omega)).2]
theorem owns_set {w : World} {g cap : Nat} {V : List Int} (h : OwnS w g cap 2 27 (V.map (Value.int .i64))) (i : Nat) (x : Int) : OwnS (w.setCell ⟨g, i, none⟩ (.int .i64 x)) g cap 2 27 ((V.set i x).map (Value.int .i64)) := by
  obtain ⟨cur, hg, h1, h2, h3, h4⟩ := h
  rw [List.map_set]
  refine ⟨cur.setIfInBounds i (.int .i64 x), heap_setCell_same w g i cur _ _ hg, by simpa using h1, h2, by simpa using h3, ?_⟩
  rw [Array.toList_setIfInBounds, List.length_set, List.take_set, h4]
/-- All blocks but one lie as they lay, and nothing is frozen anew: a store into a list. -/
structure G1w (g : Nat) (Z W : World) : Prop where
  gr : Z.grownBy W (some g)
  fz : ∀ x, W.frozen? x = Z.frozen? x
theorem G1w.kept {g : Nat} {Z W W' : World} (h : G1w g Z W) (k : Kept W W') : G1w g Z W' := ⟨⟨k.below.os.trans h.gr.os, k.below.tape.trans h.gr.tape, k.below.output.trans h.gr.output, Nat.le_trans h.gr.size k.below.size, fun i hi hne => (k.below.block i (Nat.lt_of_lt_of_le hi h.gr.size)).trans (h.gr.block i hi hne)⟩, fun x => (k.frozen x).trans (h.fz x)⟩
theorem G1w.set {g : Nat} {Z W : World} (h : G1w g Z W) (j : Nat) (v : Value) : G1w g Z (W.setCell ⟨g, j, none⟩ v) := ⟨grown_set h.gr j v, fun x => (World.frozen?_setCell _ _ _ _).trans (h.fz x)⟩
theorem G1w.cell {g : Nat} {Z W : World} (h : G1w g Z W) {b o : Nat} {v : Value} (hb : Z.cell? ⟨b, o, none⟩ = some v) (hne : b ≠ g) : W.cell? ⟨b, o, none⟩ = some v := (grown_cell h.gr (World.block_lt_of_cell? _ _ hb) hne).trans hb

set_option maxHeartbeats 4000000 in
set_option maxRecDepth 100000 in
theorem putPairs_one (B G1 C1 k g cap : Nat) (hk : k ≤ 1000000) (L : List Int) (hL : L.length = k * 2) (vW : Value) (w : World) (hB : Bp w B (.slice (some ⟨G1, 0, none⟩) 1 C1) vW) (h1 : w.cell? ⟨G1, 0, none⟩ = some (.slice (some ⟨g, 0, none⟩) k cap)) (ho : OwnS w g cap 2 27 (L.map (Value.int .i64))) (hne1 : B ≠ g) (hne2 : G1 ≠ g) : Calls Try.prog 52 #[.pointer (some ⟨B, 0, none⟩)] w fun e w' => e = .returned (.tuple #[]) ∧ OwnS w' g cap 2 27 ((mkp 0 k).map (Value.int .i64)) ∧ G1w g w w' := by
  have HS : Hid (∀ u, G1w g w u → u.cell? ⟨B, 2, none⟩ = some (.slice (some ⟨G1, 0, none⟩) 1 C1) ∧ u.cell? ⟨G1, 0, none⟩ = some (.slice (some ⟨g, 0, none⟩) k cap)) := fun u ku => ⟨ku.cell hB.c2 hne1, ku.cell h1 hne2⟩
  have KM : Hid (∀ u, Calls Try.prog 96 #[.int .i64 0, .int .i64 0, .int .i64 (k : Int)] u fun e w' => ∃ ao co, e = .returned (.slice ao k co) ∧ MP u.heap.size w' (.slice ao k co) k (mkp 0 k) ∧ Kept u w') := fun u => by
    refine (markPairs_any 0 k (by omega) hk u).mono ?_
    rintro e w' ⟨v, rfl, hm, kk⟩
    obtain ⟨ao, co, rfl⟩ := (mp_rdp hm).form
    exact ⟨ao, co, rfl, hm, kk⟩
  have hr0 : G1w g w w := ⟨World.grownBy.refl _ _, fun _ => rfl⟩
  have HO := (show Hid (OwnS w g cap 2 27 (L.map (Value.int .i64)) ∧ L.length = k * 2 ∧ G1w g w w) from ⟨ho, hL, hr0⟩)
  clear hB h1 ho hL hr0
  go_enter Try.func52, Try.ntmps52
  go_wp2_with fail
  go_loopw [2] (fun iv wr => ∃ i : Nat, i ≤ 1 ∧ iv = .int .i64 i ∧ (i = 0 → ∃ V : List Int, V.length = k * 2 ∧ OwnS wr g cap 2 27 (V.map (Value.int .i64))) ∧ (i = 1 → OwnS wr g cap 2 27 ((mkp 0 k).map (Value.int .i64))) ∧ G1w g w wr) (fun iv _ => 1 - (intOf iv).toNat)
  case atStart => exact ⟨0, Nat.zero_le _, rfl, fun _ => ⟨L, HO.out.2.1, HO.out.1⟩, fun h => by omega, HO.out.2.2⟩
  case round =>
    obtain ⟨i, hi, rfl, hi0, hi1, kr⟩ := hrel
    obtain ⟨q2, q3⟩ := HS.out wr kr
    rcases (show i = 0 ∨ i = 1 by omega) with rfl | rfl
    · obtain ⟨V, hV, hoV⟩ := hi0 rfl
      clear hi0 hi1 hi
      rw [show ((0 : Nat) : Int) = 0 from rfl]
      go_upto_region 4 with (first | (go_at_call 96; refine (KM.out _).mono ?_; rintro e w1 ⟨ao, co, rfl, hm, k1⟩))
      clear q2 q3
      have kr1 := kr.kept k1
      have hoV1 := hoV.kept k1
      have hgm : g < wr.heap.size := hoV.lt
      obtain ⟨hs, hhs⟩ : ∃ hs, hs = wr.heap.size := ⟨_, rfl⟩
      rw [← hhs] at hm hgm
      have HV := (show Hid (Mq k 0 V) from ⟨hV, fun j hj => by omega⟩)
      have HMK := (show Hid (MP hs w1 (.slice ao k co) k (mkp 0 k)) from hm)
      clear hm kr k1 hoV hV hhs
      go_wp2_with fail
      go_loopw [4] (fun jv wy => ∃ (j : Nat) (V : List Int), j ≤ k ∧ jv = .int .i64 j ∧ Mq k j V ∧ OwnS wy g cap 2 27 (V.map (Value.int .i64)) ∧ G1w g w1 wy) (fun jv _ => k - (intOf jv).toNat)
      case atStart => exact ⟨0, V, Nat.zero_le _, rfl, HV.out, hoV1, ⟨World.grownBy.refl _ _, fun _ => rfl⟩⟩
      case round =>
        obtain ⟨j, V, hj, rfl, hMq, hoy, ky⟩ := hrel
        have kwy : G1w g w wr := ⟨⟨ky.gr.os.trans kr1.gr.os, ky.gr.tape.trans kr1.gr.tape, ky.gr.output.trans kr1.gr.output, Nat.le_trans kr1.gr.size ky.gr.size, fun i hi hne => (ky.gr.block i (Nat.lt_of_lt_of_le hi kr1.gr.size) hne).trans (kr1.gr.block i hi hne)⟩, fun x => (ky.fz x).trans (kr1.fz x)⟩
        by_cases hjk : j < k
        · obtain ⟨q2, q3⟩ := HS.out wr kwy
          obtain ⟨gm, cm, eqm, hgw, -, -, hom⟩ : ∃ g' cap', Value.slice ao k co = .slice (some ⟨g', 0, none⟩) k cap' ∧ hs ≤ g' ∧ (mkp 0 k).map (Value.int .i64) = (mkp 0 k).map (Value.int .i64) ∧ k ≤ cap' ∧ OwnS w1 g' cap' 2 27 ((mkp 0 k).map (Value.int .i64)) := by
            rcases HMK.out with ⟨e, -⟩ | ⟨g', cap', e1, e2, e3, e4, e5⟩
            · omega
            · exact ⟨g', cap', e1, e2, rfl, e4, e5⟩
          have m0 := ky.cell (owns_int hom (j * 2) (by rw [mkp_len]; omega)) (by omega)
          have m1 := ky.cell (owns_int hom (j * 2 + 1) (by rw [mkp_len]; omega)) (by omega)
          rw [(mkp_get 0 k j hjk).1] at m0
          rw [(mkp_get 0 k j hjk).2] at m1
          simp only [Value.slice.injEq] at eqm
          obtain ⟨rfl, -, rfl⟩ := eqm
          have hl := hMq.len
          have p0 := owns_int hoy (j * 2) (by omega)
          have p1 := owns_int hoy (j * 2 + 1) (by omega)
          have f0 := hoy.free (j * 2)
          have f1 := hoy.free (j * 2 + 1)
          have HN := (show Hid (Mq k (j + 1) ((V.set (j * 2) (-1)).set (j * 2 + 1) ((0 + j : Nat) : Int)) ∧ OwnS wr g cap 2 27 (V.map (Value.int .i64)) ∧ G1w g w1 wr) from ⟨hMq.step hjk, hoy, ky⟩)
          generalize V.getD (j * 2) 0 = x0 at *
          generalize V.getD (j * 2 + 1) 0 = x1 at *
          rw [Nat.zero_add] at m1 HN
          clear hMq hoy ky kwy hom hl
          have b4 : (j : Int) < (k : Int) := by omega
          have z1 : IntKind.i64.wrap ((j : Int) + 1) = (j : Int) + 1 := by rw [wrap_i64]; omega
          go_upto_region 7 with fail
          go_region
          all_goals go_wp2_with fail
          all_goals go_roundw
          case rel =>
            obtain ⟨h1, h2, h3⟩ := HN.out
            exact ⟨j + 1, _, by omega, by go_num, h1, (owns_set (owns_set h2 _ _) _ _).kept (Kept.refl _).drew, ((h3.set _ _).set _ _).kept (Kept.refl _).drew⟩
          case measure => simp [intOf]; omega
        · obtain rfl : j = k := by omega
          have hfin := mq_end hMq
          have HF := (show Hid (OwnS wr g cap 2 27 ((mkp 0 j).map (Value.int .i64)) ∧ G1w g w wr) from ⟨by rw [← hfin]; exact hoy, kwy⟩)
          clear hMq hoy ky kwy hfin
          go_wp2_with fail
          go_roundw
          case rel => exact ⟨1, by omega, by go_num, fun h => by omega, fun _ => HF.out.1, HF.out.2⟩
          case measure => simp [intOf]
    · have hfin := hi1 rfl
      clear hi0 hi1
      rw [show ((1 : Nat) : Int) = 1 from rfl]
      go_wp2_with fail
      exact bodyPost_end (v := .tuple #[]) (by simp [results, Try.results52, go_sem]) rfl ⟨rfl, hfin, kr⟩
end Go.Proofs.Ythjcofdcbinliaa
