/- orders, where Shuffle answers. -/
import Derived.Test.YtakdnodgcdddeaaGP1
namespace Go.Proofs.Ytakdnodgcdddeaa
open Go.ChangeShapes Go.WideShapes Go.ChangeAt Go.RowKit
set_option linter.unusedVariables false
set_option linter.unusedSimpArgs false

set_option maxHeartbeats 8000000 in
set_option maxRecDepth 100000 in
theorem orders_bad_a (w0 w : World) (kb : Nat) (vL vW : Value) (E : List Ent) (hK : KeepAt w0 w kb vL vW E) (hE : E.length + 2 ≤ 300) (s t a : Int) (n : Nat) (m : Int) (hn : n ≤ 65536) (hm : m < 0) : Calls Try.prog 12 #[.pointer (some ⟨kb, 0, none⟩), .agg #[.int .i64 s, .int .i64 t, .int .i64 a], .int .i64 n, .int .i64 m] w fun e w' => e = .returned (.bool true) ∧ ∃ vL' vW' E', KeepAt w0 w' kb vL' vW' E' ∧ E'.length ≤ E.length + 2 ∧ Stay w w' kb vL vW vL' vW' := by
  have p0 : ¬ (n : Int) < 0 := by omega
  have p1 : ¬ 65536 < (n : Int) := by omega
  obtain ⟨L, P, hS⟩ : ∃ L P, shuf s t a n = (L, P) := ⟨_, _, rfl⟩
  have hLl : L.length = n := by have := shuf_length s t a n; rw [hS] at this; exact this
  have H1 : Hid (∀ u, Calls Try.prog 18 #[.agg #[.int .i64 s, .int .i64 t, .int .i64 a], .int .i64 n] u fun e w' => e = .returned (.tuple #[.slice (some ⟨u.heap.size + 4, 0, none⟩) n n, .agg #[.int .i64 s, .int .i64 t, .int .i64 P], .int .i64 0]) ∧ Own w' (u.heap.size + 4) n L ∧ Kept u w') := fun u => by
    have := shuffle_ok s t a n hn u
    rw [hS] at this
    exact this
  have H3 : Hid (∀ u, Calls Try.prog 19 #[.agg #[.int .i64 s, .int .i64 t, .int .i64 a], .int .i64 n] u fun e w' => ∃ lv, e = .returned (.tuple #[lv, .agg #[.int .i64 s, .int .i64 t, .int .i64 P]]) ∧ MR (u.heap.size + 2) w' lv L ∧ Kept u w') := fun u => by
    have := rshuffle_ok s t a n hn u
    rw [hS] at this
    exact this
  have H2 : Hid (∀ u, Calls Try.prog 27 #[.agg #[.int .i64 s, .int .i64 t, .int .i64 a], .int .i64 n, .int .i64 m] u fun e w' => e = .returned (.tuple #[.slice none 0 0, .agg #[.int .i64 0, .int .i64 0, .int .i64 0], .int .i64 1]) ∧ Kept u w') := fun u => pick_arg s t a n m (.inr (.inl hm)) u
  have HL : Hid (L.length = n) := hLl
  clear hS hLl
  have hlt := hK.lt
  have hnew := hK.kept.below.size
  have HB : Hid (∀ b ∈ blks kb vL vW E, b < w.heap.size) := hlt
  have HKP : Hid (KeepAt w0 w kb vL vW E) := hK
  clear hK hlt
  go_enter Try.func12, Try.ntmps12
  go_upto_region 1 with fail
  have f0 := dw_new w s t a 23
  have kk : Kept w (w.alloc (.cells #[.int .i64 s, .int .i64 t, .int .i64 a] 23)) := (Kept.refl w).alloc #[.int .i64 s, .int .i64 t, .int .i64 a] 23
  obtain ⟨X0, hX⟩ : ∃ X, X = w.alloc (.cells #[.int .i64 s, .int .i64 t, .int .i64 a] 23) := ⟨_, rfl⟩
  have hX0s : X0.heap.size = w.heap.size + 1 := by rw [hX]; simp
  rw [← hX] at f0 kk ⊢
  clear hX
  have D0 := f0
  obtain ⟨⟨c0, c1, c2⟩, fz⟩ := D0
  go_wp2_with fail
  refine (H1.out _).mono ?_
  rintro e w1 ⟨rfl, ho, hk1⟩
  rw [hX0s, show w.heap.size + 1 + 4 = w.heap.size + 5 by omega] at ho ⊢
  clear c0 c1 c2 fz
  go_upto_region 2 with fail
  have kA := (Kept.refl w1).alloc #[.int .i64 s, .int .i64 t, .int .i64 P] 23
  have f1 := (f0.kept hk1).kept kA
  have k1 := (kk.trans hk1).trans kA
  have o1 := ho.kept kA
  have e1 := dw_new w1 s t P 23
  have hg1 : w.heap.size + 5 < w1.heap.size := ho.lt
  obtain ⟨C1, hC⟩ : ∃ C, C = w1.heap.size := ⟨_, rfl⟩
  obtain ⟨X1, hX⟩ : ∃ X, X = w1.alloc (.cells #[.int .i64 s, .int .i64 t, .int .i64 P] 23) := ⟨_, rfl⟩
  have hX1s : X1.heap.size = C1 + 1 := by rw [hX, hC]; simp
  rw [← hC] at e1 hg1 ⊢
  rw [← hX] at f1 k1 e1 o1 ⊢
  clear hX hC hk1 kA f0 kk ho
  have D0 := f1
  obtain ⟨⟨c0, c1, c2⟩, fz⟩ := D0
  go_wp2_with fail
  refine (H2.out _).mono ?_
  rintro e w2 ⟨rfl, hk2⟩
  have hbl := hk2.below
  clear c0 c1 c2 fz
  go_upto_region 3 with fail
  have kA := (Kept.refl w2).alloc #[.int .i64 0, .int .i64 0, .int .i64 0] 23
  have f2 := (f1.below hbl).kept kA
  have e2 := (e1.below hbl).kept kA
  have o2 := (o1.below hbl).kept kA
  have n2 := dw_new w2 0 0 0 23
  have hw2 : C1 + 1 ≤ w2.heap.size := by have := hbl.size; omega
  have kp2 := ((HKP.out.keptOn k1).below hbl).keptOn kA
  have st2 : Stay w _ kb vL vW vL vW := ⟨fun b hb _ => (kA.below.block b (by have := hbl.size; have := k1.below.size; omega)).trans ((hbl.block b (by have := k1.below.size; omega)).trans (k1.below.block b hb)), fun b hb => .inl hb, Nat.le_trans k1.below.size (Nat.le_trans hbl.size kA.below.size)⟩
  obtain ⟨C2, hC⟩ : ∃ C, C = w2.heap.size := ⟨_, rfl⟩
  obtain ⟨X2, hX⟩ : ∃ X, X = w2.alloc (.cells #[.int .i64 0, .int .i64 0, .int .i64 0] 23) := ⟨_, rfl⟩
  have hX2s : X2.heap.size = C2 + 1 := by rw [hX, hC]; simp
  rw [← hC] at n2 hw2 ⊢
  rw [← hX] at f2 e2 o2 n2 kp2 st2 ⊢
  have HST2 : Hid (Stay w X2 kb vL vW vL vW) := st2
  clear st2
  clear hX hC kA f1 e1 o1 k1 hbl hk2
  have D0 := f2
  obtain ⟨⟨c0, c1, c2⟩, fz⟩ := D0
  go_wp2_with fail
  refine (H3.out _).mono ?_
  rintro e w3 ⟨lv, rfl, hml, hk3⟩
  clear c0 c1 c2 fz
  go_upto_region 15 with fail
  have kA := (Kept.refl w3).alloc #[.int .i64 s, .int .i64 t, .int .i64 P] 23
  have f3 := (f2.kept hk3).kept kA
  have e3 := (e2.kept hk3).kept kA
  have o3 := (o2.kept hk3).kept kA
  have n3 := (n2.kept hk3).kept kA
  have r3 := dw_new w3 s t P 23
  have kp3 := (kp2.keptOn hk3).keptOn kA
  have st3 := HST2.out.trans (stay_kept (hk3.trans kA))
  have hm3 := hml.kept kA
  have hw3 : C2 + 1 ≤ w3.heap.size := by have := hk3.below.size; omega
  obtain ⟨C3, hC⟩ : ∃ C, C = w3.heap.size := ⟨_, rfl⟩
  obtain ⟨X3, hX⟩ : ∃ X, X = w3.alloc (.cells #[.int .i64 s, .int .i64 t, .int .i64 P] 23) := ⟨_, rfl⟩
  have hX3s : X3.heap.size = C3 + 1 := by rw [hX, hC]; simp
  rw [← hC] at r3 hw3 ⊢
  rw [← hX] at f3 e3 o3 n3 r3 kp3 hm3 st3 ⊢
  have HST3 : Hid (Stay w X3 kb vL vW vL vW) := st3
  clear st3 HST2
  clear hX hC kA f2 e2 o2 n2 kp2 hk3 hml 
  rw [hX2s] at hm3
  have hSb : ∀ b ∈ kb :: (blk vL ++ blk vW), b < w.heap.size := fun b hb => HB.out b (in_blks hb)
  have KA : Hid (Calls Try.prog 28 #[.pointer (some ⟨kb, 0, none⟩), .slice (some ⟨w.heap.size + 5, 0, none⟩) n n, lv] X3 fun e w' => e = .returned (.bool true) ∧ ∃ vL' vW' u, KeepAt w0 w' kb vL' vW' (E ++ [⟨.slice (some ⟨w.heap.size + 5, 0, none⟩) n n, u, L⟩]) ∧ GrwS (kb :: (blk vL ++ blk vW)) X3 w' ∧ (∀ b ∈ blks kb vL' vW' (E ++ [⟨.slice (some ⟨w.heap.size + 5, 0, none⟩) n n, u, L⟩]), b ∈ blks kb vL vW E ∨ b ∈ blk (.slice (some ⟨w.heap.size + 5, 0, none⟩) n n) ∨ X3.heap.size ≤ b) ∧ ∀ b ∈ kb :: (blk vL' ++ blk vW'), b ∈ kb :: (blk vL ++ blk vW) ∨ X3.heap.size ≤ b) :=
    keepAdd w0 X3 kb vL vW E kp3 (by omega) _ lv L (by rw [HL.out]; omega) (o3.rw n HL.out)
      (fun b hb hm => by
        have h1 := HB.out b hm
        have h2 : b = w.heap.size + 5 := by simpa [blk] using hb
        omega)
      (fun b hb => by
        have h2 : b = w.heap.size + 5 := by simpa [blk] using hb
        omega)
      (fun u hu => hm3.slS hu (fun b hb => by have := hSb b hb; omega))
  go_wp2_with fail
  refine KA.out.mono ?_
  rintro e w4 ⟨rfl, vL', vW', uu, kp4, hgr, hin, hin2⟩
  have f4 := f3.grwS hgr (fun hm => by have := hSb _ hm; omega)
  have e4 := e3.grwS hgr (fun hm => by have := hSb _ hm; omega)
  have n4 := n3.grwS hgr (fun hm => by have := hSb _ hm; omega)
  have r4 := r3.grwS hgr (fun hm => by have := hSb _ hm; omega)
  have hw4 := hgr.size
  have HST4 : Hid (Stay w w4 kb vL vW vL' vW') := HST3.out.trans ⟨fun b hb hn => hgr.block b hb hn, hin2, hgr.size⟩
  clear KA f3 e3 o3 n3 r3 kp3 hm3 hgr 
  obtain ⟨⟨c0, c1, c2⟩, fz⟩ := e4
  obtain ⟨⟨c3, c4, c5⟩, fy⟩ := n4
  obtain ⟨⟨c6, c7, c8⟩, fx⟩ := r4
  go_wp2
  go_ret
  exact ⟨rfl, vL', vW', _, kp4, by simp, HST4.out⟩

set_option maxHeartbeats 8000000 in
set_option maxRecDepth 100000 in
theorem orders_bad_b (w0 w : World) (kb : Nat) (vL vW : Value) (E : List Ent) (hK : KeepAt w0 w kb vL vW E) (hE : E.length + 2 ≤ 300) (s t a : Int) (n : Nat) (m : Int) (hn : n ≤ 65536) (hm : ¬ m < 0) (hm2 : (n : Int) < m) : Calls Try.prog 12 #[.pointer (some ⟨kb, 0, none⟩), .agg #[.int .i64 s, .int .i64 t, .int .i64 a], .int .i64 n, .int .i64 m] w fun e w' => e = .returned (.bool true) ∧ ∃ vL' vW' E', KeepAt w0 w' kb vL' vW' E' ∧ E'.length ≤ E.length + 2 ∧ Stay w w' kb vL vW vL' vW' := by
  have q2 : decide (m < 0) = false := decide_eq_false hm
  have p0 : ¬ (n : Int) < 0 := by omega
  have p1 : ¬ 65536 < (n : Int) := by omega
  obtain ⟨L, P, hS⟩ : ∃ L P, shuf s t a n = (L, P) := ⟨_, _, rfl⟩
  have hLl : L.length = n := by have := shuf_length s t a n; rw [hS] at this; exact this
  have H1 : Hid (∀ u, Calls Try.prog 18 #[.agg #[.int .i64 s, .int .i64 t, .int .i64 a], .int .i64 n] u fun e w' => e = .returned (.tuple #[.slice (some ⟨u.heap.size + 4, 0, none⟩) n n, .agg #[.int .i64 s, .int .i64 t, .int .i64 P], .int .i64 0]) ∧ Own w' (u.heap.size + 4) n L ∧ Kept u w') := fun u => by
    have := shuffle_ok s t a n hn u
    rw [hS] at this
    exact this
  have H3 : Hid (∀ u, Calls Try.prog 19 #[.agg #[.int .i64 s, .int .i64 t, .int .i64 a], .int .i64 n] u fun e w' => ∃ lv, e = .returned (.tuple #[lv, .agg #[.int .i64 s, .int .i64 t, .int .i64 P]]) ∧ MR (u.heap.size + 2) w' lv L ∧ Kept u w') := fun u => by
    have := rshuffle_ok s t a n hn u
    rw [hS] at this
    exact this
  have H2 : Hid (∀ u, Calls Try.prog 27 #[.agg #[.int .i64 s, .int .i64 t, .int .i64 a], .int .i64 n, .int .i64 m] u fun e w' => e = .returned (.tuple #[.slice none 0 0, .agg #[.int .i64 0, .int .i64 0, .int .i64 0], .int .i64 1]) ∧ Kept u w') := fun u => pick_arg s t a n m (.inr (.inr hm2)) u
  have HL : Hid (L.length = n) := hLl
  clear hS hLl
  have hlt := hK.lt
  have hnew := hK.kept.below.size
  have HB : Hid (∀ b ∈ blks kb vL vW E, b < w.heap.size) := hlt
  have HKP : Hid (KeepAt w0 w kb vL vW E) := hK
  clear hK hlt
  go_enter Try.func12, Try.ntmps12
  go_upto_region 1 with fail
  have f0 := dw_new w s t a 23
  have kk : Kept w (w.alloc (.cells #[.int .i64 s, .int .i64 t, .int .i64 a] 23)) := (Kept.refl w).alloc #[.int .i64 s, .int .i64 t, .int .i64 a] 23
  obtain ⟨X0, hX⟩ : ∃ X, X = w.alloc (.cells #[.int .i64 s, .int .i64 t, .int .i64 a] 23) := ⟨_, rfl⟩
  have hX0s : X0.heap.size = w.heap.size + 1 := by rw [hX]; simp
  rw [← hX] at f0 kk ⊢
  clear hX
  have D0 := f0
  obtain ⟨⟨c0, c1, c2⟩, fz⟩ := D0
  go_wp2_with fail
  refine (H1.out _).mono ?_
  rintro e w1 ⟨rfl, ho, hk1⟩
  rw [hX0s, show w.heap.size + 1 + 4 = w.heap.size + 5 by omega] at ho ⊢
  clear c0 c1 c2 fz
  go_upto_region 2 with fail
  have kA := (Kept.refl w1).alloc #[.int .i64 s, .int .i64 t, .int .i64 P] 23
  have f1 := (f0.kept hk1).kept kA
  have k1 := (kk.trans hk1).trans kA
  have o1 := ho.kept kA
  have e1 := dw_new w1 s t P 23
  have hg1 : w.heap.size + 5 < w1.heap.size := ho.lt
  obtain ⟨C1, hC⟩ : ∃ C, C = w1.heap.size := ⟨_, rfl⟩
  obtain ⟨X1, hX⟩ : ∃ X, X = w1.alloc (.cells #[.int .i64 s, .int .i64 t, .int .i64 P] 23) := ⟨_, rfl⟩
  have hX1s : X1.heap.size = C1 + 1 := by rw [hX, hC]; simp
  rw [← hC] at e1 hg1 ⊢
  rw [← hX] at f1 k1 e1 o1 ⊢
  clear hX hC hk1 kA f0 kk ho
  have D0 := f1
  obtain ⟨⟨c0, c1, c2⟩, fz⟩ := D0
  go_wp2_with fail
  refine (H2.out _).mono ?_
  rintro e w2 ⟨rfl, hk2⟩
  have hbl := hk2.below
  clear c0 c1 c2 fz
  go_upto_region 3 with fail
  have kA := (Kept.refl w2).alloc #[.int .i64 0, .int .i64 0, .int .i64 0] 23
  have f2 := (f1.below hbl).kept kA
  have e2 := (e1.below hbl).kept kA
  have o2 := (o1.below hbl).kept kA
  have n2 := dw_new w2 0 0 0 23
  have hw2 : C1 + 1 ≤ w2.heap.size := by have := hbl.size; omega
  have kp2 := ((HKP.out.keptOn k1).below hbl).keptOn kA
  have st2 : Stay w _ kb vL vW vL vW := ⟨fun b hb _ => (kA.below.block b (by have := hbl.size; have := k1.below.size; omega)).trans ((hbl.block b (by have := k1.below.size; omega)).trans (k1.below.block b hb)), fun b hb => .inl hb, Nat.le_trans k1.below.size (Nat.le_trans hbl.size kA.below.size)⟩
  obtain ⟨C2, hC⟩ : ∃ C, C = w2.heap.size := ⟨_, rfl⟩
  obtain ⟨X2, hX⟩ : ∃ X, X = w2.alloc (.cells #[.int .i64 0, .int .i64 0, .int .i64 0] 23) := ⟨_, rfl⟩
  have hX2s : X2.heap.size = C2 + 1 := by rw [hX, hC]; simp
  rw [← hC] at n2 hw2 ⊢
  rw [← hX] at f2 e2 o2 n2 kp2 st2 ⊢
  have HST2 : Hid (Stay w X2 kb vL vW vL vW) := st2
  clear st2
  clear hX hC kA f1 e1 o1 k1 hbl hk2
  have D0 := f2
  obtain ⟨⟨c0, c1, c2⟩, fz⟩ := D0
  go_wp2_with fail
  refine (H3.out _).mono ?_
  rintro e w3 ⟨lv, rfl, hml, hk3⟩
  clear c0 c1 c2 fz
  go_upto_region 15 with fail
  have kA := (Kept.refl w3).alloc #[.int .i64 s, .int .i64 t, .int .i64 P] 23
  have f3 := (f2.kept hk3).kept kA
  have e3 := (e2.kept hk3).kept kA
  have o3 := (o2.kept hk3).kept kA
  have n3 := (n2.kept hk3).kept kA
  have r3 := dw_new w3 s t P 23
  have kp3 := (kp2.keptOn hk3).keptOn kA
  have st3 := HST2.out.trans (stay_kept (hk3.trans kA))
  have hm3 := hml.kept kA
  have hw3 : C2 + 1 ≤ w3.heap.size := by have := hk3.below.size; omega
  obtain ⟨C3, hC⟩ : ∃ C, C = w3.heap.size := ⟨_, rfl⟩
  obtain ⟨X3, hX⟩ : ∃ X, X = w3.alloc (.cells #[.int .i64 s, .int .i64 t, .int .i64 P] 23) := ⟨_, rfl⟩
  have hX3s : X3.heap.size = C3 + 1 := by rw [hX, hC]; simp
  rw [← hC] at r3 hw3 ⊢
  rw [← hX] at f3 e3 o3 n3 r3 kp3 hm3 st3 ⊢
  have HST3 : Hid (Stay w X3 kb vL vW vL vW) := st3
  clear st3 HST2
  clear hX hC kA f2 e2 o2 n2 kp2 hk3 hml 
  rw [hX2s] at hm3
  have hSb : ∀ b ∈ kb :: (blk vL ++ blk vW), b < w.heap.size := fun b hb => HB.out b (in_blks hb)
  have KA : Hid (Calls Try.prog 28 #[.pointer (some ⟨kb, 0, none⟩), .slice (some ⟨w.heap.size + 5, 0, none⟩) n n, lv] X3 fun e w' => e = .returned (.bool true) ∧ ∃ vL' vW' u, KeepAt w0 w' kb vL' vW' (E ++ [⟨.slice (some ⟨w.heap.size + 5, 0, none⟩) n n, u, L⟩]) ∧ GrwS (kb :: (blk vL ++ blk vW)) X3 w' ∧ (∀ b ∈ blks kb vL' vW' (E ++ [⟨.slice (some ⟨w.heap.size + 5, 0, none⟩) n n, u, L⟩]), b ∈ blks kb vL vW E ∨ b ∈ blk (.slice (some ⟨w.heap.size + 5, 0, none⟩) n n) ∨ X3.heap.size ≤ b) ∧ ∀ b ∈ kb :: (blk vL' ++ blk vW'), b ∈ kb :: (blk vL ++ blk vW) ∨ X3.heap.size ≤ b) :=
    keepAdd w0 X3 kb vL vW E kp3 (by omega) _ lv L (by rw [HL.out]; omega) (o3.rw n HL.out)
      (fun b hb hm => by
        have h1 := HB.out b hm
        have h2 : b = w.heap.size + 5 := by simpa [blk] using hb
        omega)
      (fun b hb => by
        have h2 : b = w.heap.size + 5 := by simpa [blk] using hb
        omega)
      (fun u hu => hm3.slS hu (fun b hb => by have := hSb b hb; omega))
  go_wp2_with fail
  refine KA.out.mono ?_
  rintro e w4 ⟨rfl, vL', vW', uu, kp4, hgr, hin, hin2⟩
  have f4 := f3.grwS hgr (fun hm => by have := hSb _ hm; omega)
  have e4 := e3.grwS hgr (fun hm => by have := hSb _ hm; omega)
  have n4 := n3.grwS hgr (fun hm => by have := hSb _ hm; omega)
  have r4 := r3.grwS hgr (fun hm => by have := hSb _ hm; omega)
  have hw4 := hgr.size
  have HST4 : Hid (Stay w w4 kb vL vW vL' vW') := HST3.out.trans ⟨fun b hb hn => hgr.block b hb hn, hin2, hgr.size⟩
  clear KA f3 e3 o3 n3 r3 kp3 hm3 hgr 
  obtain ⟨⟨c0, c1, c2⟩, fz⟩ := e4
  obtain ⟨⟨c3, c4, c5⟩, fy⟩ := n4
  obtain ⟨⟨c6, c7, c8⟩, fx⟩ := r4
  go_wp2
  go_ret
  exact ⟨rfl, vL', vW', _, kp4, by simp, HST4.out⟩

set_option maxHeartbeats 8000000 in
set_option maxRecDepth 100000 in
theorem orders_ok (w0 w : World) (kb : Nat) (vL vW : Value) (E : List Ent) (hK : KeepAt w0 w kb vL vW E) (hE : E.length + 2 ≤ 300) (s t a : Int) (n k : Nat) (hk : k ≤ n) (hn : n ≤ 65536) : Calls Try.prog 12 #[.pointer (some ⟨kb, 0, none⟩), .agg #[.int .i64 s, .int .i64 t, .int .i64 a], .int .i64 n, .int .i64 k] w fun e w' => e = .returned (.bool true) ∧ ∃ vL' vW' E', KeepAt w0 w' kb vL' vW' E' ∧ E'.length ≤ E.length + 2 ∧ Stay w w' kb vL vW vL' vW' := by
  have q1 : ¬ (k : Int) < 0 := by omega
  have q2 : decide ((k : Int) < 0) = false := decide_eq_false q1
  have q3 : ¬ (n : Int) < (k : Int) := by omega
  have q4 : decide ((n : Int) < (k : Int)) = false := decide_eq_false q3
  have q5 : decide (n < k) = false := decide_eq_false (by omega)
  have q6 : ¬ n < k := by omega
  have p0 : ¬ (n : Int) < 0 := by omega
  have p1 : ¬ 65536 < (n : Int) := by omega
  obtain ⟨L, P, hS⟩ : ∃ L P, shuf s t a n = (L, P) := ⟨_, _, rfl⟩
  have hLl : L.length = n := by have := shuf_length s t a n; rw [hS] at this; exact this
  have H1 : Hid (∀ u, Calls Try.prog 18 #[.agg #[.int .i64 s, .int .i64 t, .int .i64 a], .int .i64 n] u fun e w' => e = .returned (.tuple #[.slice (some ⟨u.heap.size + 4, 0, none⟩) n n, .agg #[.int .i64 s, .int .i64 t, .int .i64 P], .int .i64 0]) ∧ Own w' (u.heap.size + 4) n L ∧ Kept u w') := fun u => by
    have := shuffle_ok s t a n hn u
    rw [hS] at this
    exact this
  have H3 : Hid (∀ u, Calls Try.prog 19 #[.agg #[.int .i64 s, .int .i64 t, .int .i64 a], .int .i64 n] u fun e w' => ∃ lv, e = .returned (.tuple #[lv, .agg #[.int .i64 s, .int .i64 t, .int .i64 P]]) ∧ MR (u.heap.size + 2) w' lv L ∧ Kept u w') := fun u => by
    have := rshuffle_ok s t a n hn u
    rw [hS] at this
    exact this
  obtain ⟨SL, hSL⟩ : ∃ SL, SL = srt (L.take k) := ⟨_, rfl⟩
  have hSLl : SL.length = k := by rw [hSL, srt_length, List.length_take, hLl]; omega
  have H2 : Hid (∀ u, Calls Try.prog 27 #[.agg #[.int .i64 s, .int .i64 t, .int .i64 a], .int .i64 n, .int .i64 k] u fun e w' => ∃ g c, e = .returned (.tuple #[.slice (some ⟨g, 0, none⟩) k c, .agg #[.int .i64 s, .int .i64 t, .int .i64 P], .int .i64 0]) ∧ u.heap.size + 2 ≤ g ∧ Own w' g c SL ∧ Below u.heap.size u w') := fun u => by
    have := pick_ok s t a n k hk hn u
    rw [hS, ← hSL] at this
    exact this
  have H4 : Hid (∀ u, Calls Try.prog 29 #[.agg #[.int .i64 s, .int .i64 t, .int .i64 a], .int .i64 n, .int .i64 k] u fun e w' => ∃ lv, e = .returned (.tuple #[lv, .agg #[.int .i64 s, .int .i64 t, .int .i64 P]]) ∧ MR (u.heap.size + 2) w' lv SL ∧ Kept u w') := fun u => by
    have := rpick_ok s t a n k hk hn u
    rw [hS, ← hSL] at this
    exact this
  have HL : Hid (L.length = n ∧ SL.length = k) := ⟨hLl, hSLl⟩
  clear hS hLl hSL hSLl
  have hlt := hK.lt
  have hnew := hK.kept.below.size
  have HB : Hid (∀ b ∈ blks kb vL vW E, b < w.heap.size) := hlt
  have HKP : Hid (KeepAt w0 w kb vL vW E) := hK
  clear hK hlt
  go_enter Try.func12, Try.ntmps12
  go_upto_region 1 with fail
  have f0 := dw_new w s t a 23
  have kk : Kept w (w.alloc (.cells #[.int .i64 s, .int .i64 t, .int .i64 a] 23)) := (Kept.refl w).alloc #[.int .i64 s, .int .i64 t, .int .i64 a] 23
  obtain ⟨X0, hX⟩ : ∃ X, X = w.alloc (.cells #[.int .i64 s, .int .i64 t, .int .i64 a] 23) := ⟨_, rfl⟩
  have hX0s : X0.heap.size = w.heap.size + 1 := by rw [hX]; simp
  rw [← hX] at f0 kk ⊢
  clear hX
  have D0 := f0
  obtain ⟨⟨c0, c1, c2⟩, fz⟩ := D0
  go_wp2_with fail
  refine (H1.out _).mono ?_
  rintro e w1 ⟨rfl, ho, hk1⟩
  rw [hX0s, show w.heap.size + 1 + 4 = w.heap.size + 5 by omega] at ho ⊢
  clear c0 c1 c2 fz
  go_upto_region 2 with fail
  have kA := (Kept.refl w1).alloc #[.int .i64 s, .int .i64 t, .int .i64 P] 23
  have f1 := (f0.kept hk1).kept kA
  have k1 := (kk.trans hk1).trans kA
  have o1 := ho.kept kA
  have e1 := dw_new w1 s t P 23
  have hg1 : w.heap.size + 5 < w1.heap.size := ho.lt
  obtain ⟨C1, hC⟩ : ∃ C, C = w1.heap.size := ⟨_, rfl⟩
  obtain ⟨X1, hX⟩ : ∃ X, X = w1.alloc (.cells #[.int .i64 s, .int .i64 t, .int .i64 P] 23) := ⟨_, rfl⟩
  have hX1s : X1.heap.size = C1 + 1 := by rw [hX, hC]; simp
  rw [← hC] at e1 hg1 ⊢
  rw [← hX] at f1 k1 e1 o1 ⊢
  clear hX hC hk1 kA f0 kk ho
  have D0 := f1
  obtain ⟨⟨c0, c1, c2⟩, fz⟩ := D0
  go_wp2_with fail
  refine (H2.out _).mono ?_
  rintro e w2 ⟨g2, cap2, rfl, hg2, hp2, hbl⟩
  clear c0 c1 c2 fz
  go_upto_region 3 with fail
  have kA := (Kept.refl w2).alloc #[.int .i64 s, .int .i64 t, .int .i64 P] 23
  have f2 := (f1.below hbl).kept kA
  have e2 := (e1.below hbl).kept kA
  have o2 := (o1.below hbl).kept kA
  have n2 := dw_new w2 s t P 23
  have hw2 : C1 + 1 ≤ w2.heap.size := by have := hbl.size; omega
  have kp2 := ((HKP.out.keptOn k1).below hbl).keptOn kA
  have st2 : Stay w _ kb vL vW vL vW := ⟨fun b hb _ => (kA.below.block b (by have := hbl.size; have := k1.below.size; omega)).trans ((hbl.block b (by have := k1.below.size; omega)).trans (k1.below.block b hb)), fun b hb => .inl hb, Nat.le_trans k1.below.size (Nat.le_trans hbl.size kA.below.size)⟩
  have hp3 := hp2.kept kA
  have hg2l : g2 < w2.heap.size := hp2.lt
  obtain ⟨C2, hC⟩ : ∃ C, C = w2.heap.size := ⟨_, rfl⟩
  obtain ⟨X2, hX⟩ : ∃ X, X = w2.alloc (.cells #[.int .i64 s, .int .i64 t, .int .i64 P] 23) := ⟨_, rfl⟩
  have hX2s : X2.heap.size = C2 + 1 := by rw [hX, hC]; simp
  rw [← hC] at n2 hw2 hg2l ⊢
  rw [← hX] at f2 e2 o2 n2 kp2 st2 hp3 ⊢
  have HST2 : Hid (Stay w X2 kb vL vW vL vW) := st2
  clear st2
  clear hX hC kA f1 e1 o1 k1 hbl hp2
  have D0 := f2
  obtain ⟨⟨c0, c1, c2⟩, fz⟩ := D0
  go_wp2_with fail
  refine (H3.out _).mono ?_
  rintro e w3 ⟨lv, rfl, hml, hk3⟩
  clear c0 c1 c2 fz
  go_upto_region 15 with fail
  have kA := (Kept.refl w3).alloc #[.int .i64 s, .int .i64 t, .int .i64 P] 23
  have f3 := (f2.kept hk3).kept kA
  have e3 := (e2.kept hk3).kept kA
  have o3 := (o2.kept hk3).kept kA
  have n3 := (n2.kept hk3).kept kA
  have r3 := dw_new w3 s t P 23
  have kp3 := (kp2.keptOn hk3).keptOn kA
  have st3 := HST2.out.trans (stay_kept (hk3.trans kA))
  have hm3 := hml.kept kA
  have hw3 : C2 + 1 ≤ w3.heap.size := by have := hk3.below.size; omega
  have hp4 := (hp3.kept hk3).kept kA
  obtain ⟨C3, hC⟩ : ∃ C, C = w3.heap.size := ⟨_, rfl⟩
  obtain ⟨X3, hX⟩ : ∃ X, X = w3.alloc (.cells #[.int .i64 s, .int .i64 t, .int .i64 P] 23) := ⟨_, rfl⟩
  have hX3s : X3.heap.size = C3 + 1 := by rw [hX, hC]; simp
  rw [← hC] at r3 hw3 ⊢
  rw [← hX] at f3 e3 o3 n3 r3 kp3 hm3 st3 hp4 ⊢
  have HST3 : Hid (Stay w X3 kb vL vW vL vW) := st3
  clear st3 HST2
  clear hX hC kA f2 e2 o2 n2 kp2 hk3 hml hp3
  rw [hX2s] at hm3
  have hSb : ∀ b ∈ kb :: (blk vL ++ blk vW), b < w.heap.size := fun b hb => HB.out b (in_blks hb)
  have KA : Hid (Calls Try.prog 28 #[.pointer (some ⟨kb, 0, none⟩), .slice (some ⟨w.heap.size + 5, 0, none⟩) n n, lv] X3 fun e w' => e = .returned (.bool true) ∧ ∃ vL' vW' u, KeepAt w0 w' kb vL' vW' (E ++ [⟨.slice (some ⟨w.heap.size + 5, 0, none⟩) n n, u, L⟩]) ∧ GrwS (kb :: (blk vL ++ blk vW)) X3 w' ∧ (∀ b ∈ blks kb vL' vW' (E ++ [⟨.slice (some ⟨w.heap.size + 5, 0, none⟩) n n, u, L⟩]), b ∈ blks kb vL vW E ∨ b ∈ blk (.slice (some ⟨w.heap.size + 5, 0, none⟩) n n) ∨ X3.heap.size ≤ b) ∧ ∀ b ∈ kb :: (blk vL' ++ blk vW'), b ∈ kb :: (blk vL ++ blk vW) ∨ X3.heap.size ≤ b) :=
    keepAdd w0 X3 kb vL vW E kp3 (by omega) _ lv L (by rw [HL.out.1]; omega) (o3.rw n HL.out.1)
      (fun b hb hm => by
        have h1 := HB.out b hm
        have h2 : b = w.heap.size + 5 := by simpa [blk] using hb
        omega)
      (fun b hb => by
        have h2 : b = w.heap.size + 5 := by simpa [blk] using hb
        omega)
      (fun u hu => hm3.slS hu (fun b hb => by have := hSb b hb; omega))
  go_wp2_with fail
  refine KA.out.mono ?_
  rintro e w4 ⟨rfl, vL', vW', uu, kp4, hgr, hin, hin2⟩
  have f4 := f3.grwS hgr (fun hm => by have := hSb _ hm; omega)
  have e4 := e3.grwS hgr (fun hm => by have := hSb _ hm; omega)
  have n4 := n3.grwS hgr (fun hm => by have := hSb _ hm; omega)
  have r4 := r3.grwS hgr (fun hm => by have := hSb _ hm; omega)
  have hw4 := hgr.size
  have HST4 : Hid (Stay w w4 kb vL vW vL' vW') := HST3.out.trans ⟨fun b hb hn => hgr.block b hb hn, hin2, hgr.size⟩
  have hp5 := hp4.grwS hgr (fun hm => by have := hSb _ hm; omega)
  clear KA f3 e3 o3 n3 r3 kp3 hm3 hgr hp4
  have E4 := e4
  have R4 := r4
  have F4 := f4
  obtain ⟨⟨c0, c1, c2⟩, fz⟩ := E4
  obtain ⟨⟨c3, c4, c5⟩, fy⟩ := R4
  obtain ⟨⟨c6, c7, c8⟩, fx⟩ := F4
  go_wp2_with fail
  refine (H4.out _).mono ?_
  rintro e w5 ⟨lv2, rfl, hml, hk5⟩
  clear c0 c1 c2 fz c3 c4 c5 fy c6 c7 c8 fx
  go_upto_region 20 with fail
  have kA := (Kept.refl w5).alloc #[.int .i64 s, .int .i64 t, .int .i64 P] 23
  have n5 := (n4.kept hk5).kept kA
  have q5 := (hp5.kept hk5).kept kA
  have r5 := dw_new w5 s t P 23
  have kp5 := (kp4.keptOn hk5).keptOn kA
  have st5 := HST4.out.trans (stay_kept (hk5.trans kA))
  have hm5 := hml.kept kA
  have hw5 := hk5.below.size
  obtain ⟨C4, hC⟩ : ∃ C, C = w5.heap.size := ⟨_, rfl⟩
  obtain ⟨X4, hX⟩ : ∃ X, X = w5.alloc (.cells #[.int .i64 s, .int .i64 t, .int .i64 P] 23) := ⟨_, rfl⟩
  have hX4s : X4.heap.size = C4 + 1 := by rw [hX, hC]; simp
  rw [← hC] at r5 hw5 ⊢
  rw [← hX] at n5 q5 r5 kp5 hm5 st5 ⊢
  have HST5 : Hid (Stay w X4 kb vL vW vL' vW') := st5
  clear st5 HST4 HST3
  have hlt4 := kp4.lt
  clear hX hC kA f4 e4 n4 r4 kp4 hk5 hml hp5
  have HB2 : Hid (∀ b ∈ kb :: (blk vL' ++ blk vW'), b < w4.heap.size) := fun b hb => hlt4 b (in_blks hb)
  have KA : Hid (Calls Try.prog 28 #[.pointer (some ⟨kb, 0, none⟩), .slice (some ⟨g2, 0, none⟩) k cap2, lv2] X4 fun e w' => e = .returned (.bool true) ∧ ∃ vL2 vW2 u, KeepAt w0 w' kb vL2 vW2 ((E ++ [⟨.slice (some ⟨w.heap.size + 5, 0, none⟩) n n, uu, L⟩]) ++ [⟨.slice (some ⟨g2, 0, none⟩) k cap2, u, SL⟩]) ∧ GrwS (kb :: (blk vL' ++ blk vW')) X4 w' ∧ Stay X4 w' kb vL' vW' vL2 vW2) := by
    refine (keepAdd w0 X4 kb vL' vW' _ kp5 (by simp; omega) _ lv2 SL (by rw [HL.out.2]; omega) (q5.rw k HL.out.2)
      (fun b hb hm => ?_) (fun b hb => ?_) (fun u hu => hm5.slS hu (fun b hb => by have := HB2.out b hb; omega))).mono ?_
    · have h2 : b = g2 := by simpa [blk] using hb
      rcases hin b hm with h3 | h3 | h3
      · have := HB.out b h3; omega
      · have : b = w.heap.size + 5 := by simpa [blk] using h3
        omega
      · omega
    · have h2 : b = g2 := by simpa [blk] using hb
      omega
    · rintro e w' ⟨he, a1, a2, a3, a4, a5, -, a7⟩
      exact ⟨he, a1, a2, a3, a4, a5, fun b hb hn => a5.block b hb hn, a7, a5.size⟩
  go_wp2_with fail
  refine KA.out.mono ?_
  rintro e w6 ⟨rfl, vL2, vW2, u2, kp6, hgr, hst6⟩
  have HST6 : Hid (Stay w w6 kb vL vW vL2 vW2) := HST5.out.trans hst6
  clear hst6 HST5
  have n6 := n5.grwS hgr (fun hm => by
    rcases hin2 _ hm with h | h
    · have := hSb _ h; omega
    · omega)
  have r6 := r5.grwS hgr (fun hm => by have := HB2.out _ hm; omega)
  clear KA n5 q5 r5 kp5 hm5 hgr
  obtain ⟨⟨c0, c1, c2⟩, fz⟩ := n6
  obtain ⟨⟨c3, c4, c5⟩, fy⟩ := r6
  go_wp2
  go_ret
  exact ⟨rfl, vL2, vW2, _, kp6, by simp, HST6.out⟩

end Go.Proofs.Ytakdnodgcdddeaa
