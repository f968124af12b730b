/- The walk of TensorStretch where there is a stretch; TensorStretch at every input. -/
import Derived.Test.YtckcfdkffjkkbaaT36
import Derived.Test.YtckcfdkffjkkbaaT32
import Derived.Test.YtckcfdkffjkkbaaT35
namespace Go.Proofs.Ytckcfdkffjkkbaa
open Go.ChangeShapes Go.WideShapes Go.ChangeAt Go.RowKit
set_option linter.unusedVariables false
set_option linter.unusedSimpArgs false

theorem Bl.grw2 {a b c : World} {g : Nat} (h : Bl a b) (hg : a.heap.size ≤ g) (k : Grw g b c) : Bl a c := h.grw hg k

set_option maxHeartbeats 8000000 in
set_option maxRecDepth 100000 in
theorem ts_ok (R C rs cs : Nat) (n : Int) (hn : n = 64 ∨ n = 32) (hR : 0 < R) (hC : 0 < C) (hRC : R * C ≤ 4096) (hrs : rs = R ∨ (R = 1 ∧ 0 < rs)) (hcs : cs = C ∨ (C = 1 ∧ 0 < cs)) (hrc : rs * cs ≤ 4096) (L : List Int) (hL : L.length = R * C) (hRg : Rgl L) (hck : ckM R C n L = 0) (b off cp : Nat) (hcp : R * C ≤ cp) (w : World) (hb : b < w.heap.size) (hrd : Reads w b off L) (hS : Sl w (.slice (some ⟨b, off, none⟩) L.length cp) L) : Calls Try.prog 5 #[.agg #[.int .i64 R, .int .i64 C, .int .i64 n, .slice (some ⟨b, off, none⟩) L.length cp], .int .i64 rs, .int .i64 cs] w fun e w' => e = .returned (.bool true) ∧ Bl w w' := by
  have KA : Hid (∀ u, Calls Try.prog 9 #[] u fun e w' => e = .returned (.bool true) ∧ Bl u w') := fun u => alive_true u
  obtain ⟨X, hX⟩ : ∃ X, X = w.alloc (.cells #[.int .i64 R, .int .i64 C, .int .i64 n, .slice (some ⟨b, off, none⟩) L.length cp] 24) := ⟨_, rfl⟩
  have hB : Bl w X := by rw [hX]; exact (Bl.refl w).alloc _
  have hM : M4 X w.heap.size (.int .i64 R) (.int .i64 C) (.int .i64 n) (.slice (some ⟨b, off, none⟩) L.length cp) := by rw [hX]; exact M4.new _ _ _ _ _ _
  have KL : Hid (∀ u, Bl X u → Calls Try.prog 10 #[.agg #[.int .i64 R, .int .i64 C, .int .i64 n, .slice (some ⟨b, off, none⟩) L.length cp]] u fun e w' => ∃ g cap, e = .returned (.agg #[.int .i64 R, .int .i64 C, .int .i64 n, .slice (some ⟨g, 0, none⟩) L.length cap]) ∧ u.heap.size ≤ g ∧ Own w' g cap (L ++ [-71]) ∧ Kept u w') := fun u k => lent_any R C n L (by omega) (some ⟨b, off, none⟩) cp u ((hS.bl hB).bl k)
  have hRgT := stf_rgl L R C rs cs hR hC hrs hcs hL hRg
  obtain ⟨T, hT⟩ : ∃ T, (lst (rs * cs) (stf L R C cs)).map (cln · n) = T := ⟨_, rfl⟩
  have hTl : T.length = rs * cs := by rw [← hT, List.length_map, lst_length]
  have bX : b < X.heap.size := Nat.lt_of_lt_of_le hb hB.size
  have KS : Hid (∀ (u : World) (g cap : Nat), R * C ≤ cap → Sl u (.slice (some ⟨g, 0, none⟩) L.length cap) L → Reads u g 0 L → g < u.heap.size → Calls Try.prog 23 #[.agg #[.int .i64 R, .int .i64 C, .int .i64 n, .slice (some ⟨g, 0, none⟩) L.length cap], .int .i64 rs, .int .i64 cs] u fun e w' => ∃ g', e = .returned (.tuple #[.agg #[.int .i64 rs, .int .i64 cs, .int .i64 n, .slice (some ⟨g', 0, none⟩) (rs * cs) (rs * cs)], .int .i64 0]) ∧ u.heap.size ≤ g' ∧ Own w' g' (rs * cs) T ∧ Bl u w') := fun u g cap hcap sl rd hg => by
    have := stretch_ok R C rs cs n hn hR hC hRC hrs hcs hrc L hL hRg hck g 0 cap hcap u hg rd sl
    rw [hT, ← hL] at this
    exact this
  have KS2 : Hid (∀ (u : World), Bl X u → Calls Try.prog 23 #[.agg #[.int .i64 R, .int .i64 C, .int .i64 n, .slice (some ⟨b, off, none⟩) L.length cp], .int .i64 rs, .int .i64 cs] u fun e w' => ∃ g', e = .returned (.tuple #[.agg #[.int .i64 rs, .int .i64 cs, .int .i64 n, .slice (some ⟨g', 0, none⟩) (rs * cs) (rs * cs)], .int .i64 0]) ∧ u.heap.size ≤ g' ∧ Own w' g' (rs * cs) T ∧ Bl u w') := fun u k => by
    have := stretch_ok R C rs cs n hn hR hC hRC hrs hcs hrc L hL hRg hck b off cp hcp u (Nat.lt_of_lt_of_le bX k.size) ((hrd.bl hb hB).bl bX k) ((hS.bl hB).bl k)
    rw [hT, ← hL] at this
    exact this
  have KRS : Hid (∀ (u : World), Bl X u → Calls Try.prog 25 #[.agg #[.int .i64 R, .int .i64 C, .int .i64 n, .slice (some ⟨b, off, none⟩) L.length cp], .int .i64 rs, .int .i64 cs] u fun e w' => ∃ ao c, e = .returned (.agg #[.int .i64 rs, .int .i64 cs, .int .i64 n, .slice ao (rs * cs) c]) ∧ Hid (Sl w' (.slice ao (rs * cs) c) T) ∧ Kept u w') := fun u k => by
    have := rstretch_ok R C rs cs n hn hR hC hRC hrs hcs hrc L hL hRgT b off cp u (Nat.lt_of_lt_of_le bX k.size) ((hrd.bl hb hB).bl bX k)
    rw [hT, ← hL] at this
    refine this.mono ?_
    rintro e w' ⟨v, rfl, hMR, k'⟩
    obtain ⟨ao, c, rfl, -, hs⟩ := hMR.sl
    rw [hTl] at hs ⊢
    exact ⟨ao, c, rfl, hs, k'⟩
  have KE : Hid (∀ (u : World) (g : Nat) (ao : Option Addr) (c : Nat), Own u g (rs * cs) T → Sl u (.slice ao (rs * cs) c) T → Calls Try.prog 21 #[.agg #[.int .i64 rs, .int .i64 cs, .int .i64 n, .slice (some ⟨g, 0, none⟩) (rs * cs) (rs * cs)], .agg #[.int .i64 rs, .int .i64 cs, .int .i64 n, .slice ao (rs * cs) c]] u fun e w' => e = .returned (.bool true) ∧ Kept u w') := fun u g ao c ho hs => by
    have h1 := ho.sl
    have := exact_true rs cs n T (by omega) (some ⟨g, 0, none⟩) ao (rs * cs) c u h1 (by rw [hTl]; exact hs)
    rw [hTl] at this
    exact this
  have KP : Hid (∀ (u : World) (g : Nat), Own u g (rs * cs) T → Calls Try.prog 26 #[.agg #[.int .i64 rs, .int .i64 cs, .int .i64 n, .slice (some ⟨g, 0, none⟩) (rs * cs) (rs * cs)]] u fun e w' => (∃ v, e = .returned v) ∧ Grw g u w') := fun u g ho => by
    have := spoil_any rs cs n T (by omega) g (rs * cs) u ho
    rw [hTl] at this
    exact this
  have KC : Hid (∀ (u : World), Bl X u → Calls Try.prog 15 #[.agg #[.int .i64 R, .int .i64 C, .int .i64 n, .slice (some ⟨b, off, none⟩) L.length cp]] u fun e w' => e = .returned (.int .i64 0) ∧ Kept u w') := fun u k => by
    have := rcheck_any R C n (some ⟨b, off, none⟩) cp L u ((hS.bl hB).bl k)
    rw [hck] at this
    exact this
  have KY : Hid (∀ (u : World) (g cap : Nat), Bl X u → Own u g cap (L ++ [-71]) → Calls Try.prog 14 #[.agg #[.int .i64 R, .int .i64 C, .int .i64 n, .slice (some ⟨g, 0, none⟩) L.length cap], .agg #[.int .i64 R, .int .i64 C, .int .i64 n, .slice (some ⟨b, off, none⟩) L.length cp]] u fun e w' => e = .returned (.bool true) ∧ Kept u w') := fun u g cap k ho => stays_true R C n L (by omega) g cap _ cp u ho ((hS.bl hB).bl k)
  have KN : Hid (∀ u e, Calls Try.prog 16 #[.int .i64 e] u fun r w' => r = .returned (.int .i64 e) ∧ u = w') := fun u e => num_any e u
  have KD : Hid (∀ u, Calls Try.prog 24 #[.agg #[.int .i64 R, .int .i64 C, .int .i64 n, .slice (some ⟨b, off, none⟩) L.length cp], .int .i64 rs, .int .i64 cs] u fun e w' => e = .returned (.int .i64 0) ∧ Kept u w') := fun u => by
    have := rstretched_any R C n rs cs hn (by omega) (by omega) (.slice (some ⟨b, off, none⟩) L.length cp) u
    rw [strE_ok hC hrs hcs hrc] at this
    exact this
  have hcapL : Hid (∀ (u : World) (g cap : Nat), Own u g cap (L ++ [-71]) → R * C ≤ cap ∧ Sl u (.slice (some ⟨g, 0, none⟩) L.length cap) L ∧ Reads u g 0 L ∧ g < u.heap.size) := fun u g cap ho => by
    have hg := ho.lt
    have h1 := ho.slTake L.length (by simp)
    rw [List.take_left' rfl] at h1
    have h2 := (ho.take L.length (by simp)).reads
    rw [List.take_left' rfl] at h2
    obtain ⟨cur, -, a, -⟩ := ho
    simp at a
    exact ⟨by omega, h1, h2, hg⟩
  have g1 : ¬ 5000 < (L.length : Int) := by omega
  obtain ⟨rq, hrq⟩ : ∃ rq, rs * cs = rq := ⟨_, rfl⟩
  rw [hrq] at KS KS2 KRS KE KP
  clear hS hck hRg hrd hT hTl hRgT hL hrq hrc hRC hcp hrs hcs hR hC hn
  generalize hl : L.length = l at *
  go_enter Try.func5, Try.ntmps5
  go_upto_region 1 with fail
  rw [← hX]
  clear hX
  go_upto_region 4 with (first | (go_at_call 9; refine (KA.out _).mono ?_; rintro e w1 ⟨rfl, k1⟩; obtain ⟨m0, m1, m2, m3⟩ := hM.bl k1))
  go_upto_region 5 with (first | (go_at_call 10; refine (KL.out _ k1).mono ?_; rintro e w2 ⟨g, cap, rfl, hg, o2, k2⟩))
  obtain ⟨Y, hY⟩ : ∃ Y, Y = w2.alloc (.cells #[.int .i64 R, .int .i64 C, .int .i64 n, .slice (some ⟨g, 0, none⟩) l cap] 24) := ⟨_, rfl⟩
  rw [← hY]
  have kY : Bl X Y := by rw [hY]; exact (k1.trans k2.bl).alloc _
  have hF : M4 Y w2.heap.size (.int .i64 R) (.int .i64 C) (.int .i64 n) (.slice (some ⟨g, 0, none⟩) l cap) := by rw [hY]; exact M4.new _ _ _ _ _ _
  have oY : Own Y g cap (L ++ [-71]) := by rw [hY]; exact o2.kept ((Kept.refl _).alloc _ _)
  have hMY := hM.bl kY
  clear hY m0 m1 m2 m3 KA KL o2 k2 k1 hg
  obtain ⟨c1, c2, c3, c4⟩ := hcapL.out _ _ _ oY
  have hF' := hF
  obtain ⟨f0, f1, f2, f3⟩ := hF'
  go_upto_region 6 with (first | (go_at_call 23; refine (KS.out _ _ _ c1 c2 c3 c4).mono ?_; rintro e w3 ⟨g3, rfl, hg3, o3, k3⟩))
  obtain ⟨Z, hZ⟩ : ∃ Z, Z = w3.alloc (.cells #[.int .i64 rs, .int .i64 cs, .int .i64 n, .slice (some ⟨g3, 0, none⟩) rq rq] 24) := ⟨_, rfl⟩
  rw [← hZ]
  have kZ : Bl Y Z := by rw [hZ]; exact k3.alloc _
  have hGZ : M4 Z w3.heap.size (.int .i64 rs) (.int .i64 cs) (.int .i64 n) (.slice (some ⟨g3, 0, none⟩) rq rq) := by rw [hZ]; exact M4.new _ _ _ _ _ _
  have oZ : Own Z g3 rq T := by rw [hZ]; exact o3.kept ((Kept.refl _).alloc _ _)
  have g3lt := o3.lt
  have g4lt := hF.lt
  have g5lt := hMY.lt
  have g6lt := oY.lt
  have ksz := k3.size
  clear f0 f1 f2 f3 hZ o3 c1 c2 c3 c4 hcapL
  obtain ⟨f0, f1, f2, f3⟩ := hF.bl kZ
  obtain ⟨m0, m1, m2, m3⟩ := hMY.bl kZ
  have kXZ := kY.trans kZ
  have oYZ := oY.bl kZ
  go_upto_region 7 with (first | (go_at_call 14; refine (KY.out _ _ _ kXZ oYZ).mono ?_; rintro e w4 ⟨rfl, k4⟩))
  clear f0 f1 f2 f3 m0 m1 m2 m3
  obtain ⟨m0, m1, m2, m3⟩ := hMY.bl (kZ.trans k4.bl)
  have kX4 := kXZ.trans k4.bl
  go_upto_region 8 with (first | (go_at_call 15; refine (KC.out _ kX4).mono ?_; rintro e w5 ⟨rfl, k5⟩))
  clear m0 m1 m2 m3
  obtain ⟨m0, m1, m2, m3⟩ := hMY.bl (kZ.trans (k4.trans k5).bl)
  go_upto_region 12 with (first | (go_at_call 24; refine (KD.out _).mono ?_; rintro e w6 ⟨rfl, k6⟩))
  clear m0 m1 m2 m3
  have k46 := k4.trans (k5.trans k6)
  have kX6 := kXZ.trans k46.bl
  have HS1 : Hid (∀ u, Kept w6 u → Kept w6 u ∧ (u.cell? ⟨w3.heap.size, 0, none⟩ = some (.int .i64 rs) ∧ u.cell? ⟨w3.heap.size, 1, none⟩ = some (.int .i64 cs) ∧ u.cell? ⟨w3.heap.size, 2, none⟩ = some (.int .i64 n) ∧ u.cell? ⟨w3.heap.size, 3, none⟩ = some (.slice (some ⟨g3, 0, none⟩) rq rq)) ∧ (u.cell? ⟨w.heap.size, 0, none⟩ = some (.int .i64 R) ∧ u.cell? ⟨w.heap.size, 1, none⟩ = some (.int .i64 C) ∧ u.cell? ⟨w.heap.size, 2, none⟩ = some (.int .i64 n) ∧ u.cell? ⟨w.heap.size, 3, none⟩ = some (.slice (some ⟨b, off, none⟩) l cp))) := fun u k => by
    obtain ⟨a0, a1, a2, a3⟩ := hGZ.bl (k46.trans k).bl
    obtain ⟨d0, d1, d2, d3⟩ := hMY.bl (kZ.trans (k46.trans k).bl)
    exact ⟨k, ⟨a0, a1, a2, a3⟩, ⟨d0, d1, d2, d3⟩⟩
  have KR6 : Hid (∀ u, Kept w6 u → Calls Try.prog 25 #[.agg #[.int .i64 R, .int .i64 C, .int .i64 n, .slice (some ⟨b, off, none⟩) l cp], .int .i64 rs, .int .i64 cs] u fun e w' => ∃ ao c, e = .returned (.agg #[.int .i64 rs, .int .i64 cs, .int .i64 n, .slice ao rq c]) ∧ Hid (Sl w' (.slice ao rq c) T) ∧ Kept w6 w') := fun u k => by
    refine (KRS.out u (kX6.trans k.bl)).mono ?_
    rintro e w' ⟨ao, c, rfl, hs, k'⟩
    exact ⟨ao, c, rfl, hs, k.trans k'⟩
  have KE6 : Hid (∀ (u : World) (ao : Option Addr) (c : Nat), Kept w6 u → Hid (Sl u (.slice ao rq c) T) → Calls Try.prog 21 #[.agg #[.int .i64 rs, .int .i64 cs, .int .i64 n, .slice (some ⟨g3, 0, none⟩) rq rq], .agg #[.int .i64 rs, .int .i64 cs, .int .i64 n, .slice ao rq c]] u fun e w' => e = .returned (.bool true) ∧ Kept w6 w') := fun u ao c k hs => by
    refine (KE.out u g3 ao c (oZ.kept (k46.trans k)) hs.out).mono ?_
    rintro e w' ⟨rfl, k'⟩
    exact ⟨rfl, k.trans k'⟩
  have kd := (Kept.refl w6).drew
  go_cut [13] from 60 to 65 (fun t wx => t = .bool true ∧ Kept w6 wx)
  case first =>
    go_region_held (fun u => Kept w6 u ∧ (u.cell? ⟨w3.heap.size, 0, none⟩ = some (.int .i64 rs) ∧ u.cell? ⟨w3.heap.size, 1, none⟩ = some (.int .i64 cs) ∧ u.cell? ⟨w3.heap.size, 2, none⟩ = some (.int .i64 n) ∧ u.cell? ⟨w3.heap.size, 3, none⟩ = some (.slice (some ⟨g3, 0, none⟩) rq rq)) ∧ (u.cell? ⟨w.heap.size, 0, none⟩ = some (.int .i64 R) ∧ u.cell? ⟨w.heap.size, 1, none⟩ = some (.int .i64 C) ∧ u.cell? ⟨w.heap.size, 2, none⟩ = some (.int .i64 n) ∧ u.cell? ⟨w.heap.size, 3, none⟩ = some (.slice (some ⟨b, off, none⟩) l cp))) (first | assumption | exact HS1.out _ kd | exact HS1.out _ (by assumption)) (first | (go_at_call 25; refine (KR6.out _ (by assumption)).mono ?_; rintro e w7 ⟨sa, sc, rfl, hsl, k7⟩) | (go_at_call 21; refine (KE6.out _ _ _ (by assumption) (by assumption)).mono ?_; rintro e w8 ⟨rfl, k8⟩))
    all_goals go_wp2_with fail
    all_goals go_meet
    all_goals exact ⟨rfl, by assumption⟩
  case rest =>
    obtain ⟨rfl, kc⟩ := hcut
    clear HS1 KR6 KE6 kd
    have k4c := k46.trans kc
    obtain ⟨z0, z1, z2, z3⟩ := hGZ.bl k4c.bl
    have oC := oZ.kept k4c
    go_upto_region 14 with (first | (go_at_call 26; refine (KP.out _ _ oC).mono ?_; rintro e w9 ⟨⟨v9, rfl⟩, gr9⟩))
    clear z0 z1 z2 z3
    have bY9 : Bl Y w9 := (kZ.trans k4c.bl).grw (by omega) gr9
    have bX9 := kY.trans bY9
    obtain ⟨m0, m1, m2, m3⟩ := hMY.bl bY9
    go_upto_region 15 with (first | (go_at_call 23; refine (KS2.out _ bX9).mono ?_; rintro e w10 ⟨g10, rfl, hg10, o10, k10⟩))
    obtain ⟨V, hV⟩ : ∃ V, V = w10.alloc (.cells #[.int .i64 rs, .int .i64 cs, .int .i64 n, .slice (some ⟨g10, 0, none⟩) rq rq] 24) := ⟨_, rfl⟩
    rw [← hV]
    have kV : Bl Y V := by rw [hV]; exact (bY9.trans k10).alloc _
    have hGV : M4 V w10.heap.size (.int .i64 rs) (.int .i64 cs) (.int .i64 n) (.slice (some ⟨g10, 0, none⟩) rq rq) := by rw [hV]; exact M4.new _ _ _ _ _ _
    have oV : Own V g10 rq T := by rw [hV]; exact o10.kept ((Kept.refl _).alloc _ _)
    have hFV := hF.bl kV
    have hMV := hMY.bl kV
    have oYV := oY.bl kV
    have kXV := kY.trans kV
    have hBV := hB.trans kXV
    clear m0 m1 m2 m3 hV o10
    have HS1 : Hid (∀ u, Kept V u → Kept V u ∧ (u.cell? ⟨w10.heap.size, 0, none⟩ = some (.int .i64 rs) ∧ u.cell? ⟨w10.heap.size, 1, none⟩ = some (.int .i64 cs) ∧ u.cell? ⟨w10.heap.size, 2, none⟩ = some (.int .i64 n) ∧ u.cell? ⟨w10.heap.size, 3, none⟩ = some (.slice (some ⟨g10, 0, none⟩) rq rq)) ∧ (u.cell? ⟨w.heap.size, 0, none⟩ = some (.int .i64 R) ∧ u.cell? ⟨w.heap.size, 1, none⟩ = some (.int .i64 C) ∧ u.cell? ⟨w.heap.size, 2, none⟩ = some (.int .i64 n) ∧ u.cell? ⟨w.heap.size, 3, none⟩ = some (.slice (some ⟨b, off, none⟩) l cp)) ∧ (u.cell? ⟨w2.heap.size, 0, none⟩ = some (.int .i64 R) ∧ u.cell? ⟨w2.heap.size, 1, none⟩ = some (.int .i64 C) ∧ u.cell? ⟨w2.heap.size, 2, none⟩ = some (.int .i64 n) ∧ u.cell? ⟨w2.heap.size, 3, none⟩ = some (.slice (some ⟨g, 0, none⟩) l cap))) := fun u k => by
      obtain ⟨a0, a1, a2, a3⟩ := hGV.bl k.bl
      obtain ⟨d0, d1, d2, d3⟩ := hMV.bl k.bl
      obtain ⟨i0, i1, i2, i3⟩ := hFV.bl k.bl
      exact ⟨k, ⟨a0, a1, a2, a3⟩, ⟨d0, d1, d2, d3⟩, ⟨i0, i1, i2, i3⟩⟩
    have KR6 : Hid (∀ u, Kept V u → Calls Try.prog 25 #[.agg #[.int .i64 R, .int .i64 C, .int .i64 n, .slice (some ⟨b, off, none⟩) l cp], .int .i64 rs, .int .i64 cs] u fun e w' => ∃ ao c, e = .returned (.agg #[.int .i64 rs, .int .i64 cs, .int .i64 n, .slice ao rq c]) ∧ Hid (Sl w' (.slice ao rq c) T) ∧ Kept V w') := fun u k => by
      refine (KRS.out u (kXV.trans k.bl)).mono ?_
      rintro e w' ⟨ao, c, rfl, hs, k'⟩
      exact ⟨ao, c, rfl, hs, k.trans k'⟩
    have KE6 : Hid (∀ (u : World) (ao : Option Addr) (c : Nat), Kept V u → Hid (Sl u (.slice ao rq c) T) → Calls Try.prog 21 #[.agg #[.int .i64 rs, .int .i64 cs, .int .i64 n, .slice (some ⟨g10, 0, none⟩) rq rq], .agg #[.int .i64 rs, .int .i64 cs, .int .i64 n, .slice ao rq c]] u fun e w' => e = .returned (.bool true) ∧ Kept V w') := fun u ao c k hs => by
      refine (KE.out u g10 ao c (oV.kept k) hs.out).mono ?_
      rintro e w' ⟨rfl, k'⟩
      exact ⟨rfl, k.trans k'⟩
    have KY6 : Hid (∀ (u : World), Kept V u → Calls Try.prog 14 #[.agg #[.int .i64 R, .int .i64 C, .int .i64 n, .slice (some ⟨g, 0, none⟩) l cap], .agg #[.int .i64 R, .int .i64 C, .int .i64 n, .slice (some ⟨b, off, none⟩) l cp]] u fun e w' => e = .returned (.bool true) ∧ Kept V w') := fun u k => by
      refine (KY.out u g cap (kXV.trans k.bl) (oYV.kept k)).mono ?_
      rintro e w' ⟨rfl, k'⟩
      exact ⟨rfl, k.trans k'⟩
    have kd := (Kept.refl V).drew
    clear KRS KE KY KS KS2 KP KC KD
    go_region_held (fun u => Kept V u ∧ (u.cell? ⟨w10.heap.size, 0, none⟩ = some (.int .i64 rs) ∧ u.cell? ⟨w10.heap.size, 1, none⟩ = some (.int .i64 cs) ∧ u.cell? ⟨w10.heap.size, 2, none⟩ = some (.int .i64 n) ∧ u.cell? ⟨w10.heap.size, 3, none⟩ = some (.slice (some ⟨g10, 0, none⟩) rq rq)) ∧ (u.cell? ⟨w.heap.size, 0, none⟩ = some (.int .i64 R) ∧ u.cell? ⟨w.heap.size, 1, none⟩ = some (.int .i64 C) ∧ u.cell? ⟨w.heap.size, 2, none⟩ = some (.int .i64 n) ∧ u.cell? ⟨w.heap.size, 3, none⟩ = some (.slice (some ⟨b, off, none⟩) l cp)) ∧ (u.cell? ⟨w2.heap.size, 0, none⟩ = some (.int .i64 R) ∧ u.cell? ⟨w2.heap.size, 1, none⟩ = some (.int .i64 C) ∧ u.cell? ⟨w2.heap.size, 2, none⟩ = some (.int .i64 n) ∧ u.cell? ⟨w2.heap.size, 3, none⟩ = some (.slice (some ⟨g, 0, none⟩) l cap))) (first | assumption | exact HS1.out _ kd | exact HS1.out _ (by assumption)) (first | (go_at_call 16; refine (KN.out _ _).mono ?_; rintro e w11 ⟨rfl, rfl⟩) | (go_at_call 25; refine (KR6.out _ (by assumption)).mono ?_; rintro e w7 ⟨sa, sc, rfl, hsl, k7⟩) | (go_at_call 21; refine (KE6.out _ _ _ (by assumption) (by assumption)).mono ?_; rintro e w8 ⟨rfl, k8⟩) | (go_at_call 14; refine (KY6.out _ (by assumption)).mono ?_; rintro e w12 ⟨rfl, k12⟩))
    all_goals go_wp2_with fail
    all_goals
      go_ret
      exact ⟨rfl, hBV.trans (Kept.bl (by assumption))⟩

theorem tensorStretch_true (r c n row col : Int) (L : List Int) (ao : Option Addr) (cp : Nat) (w : World) (hR : ∀ d ∈ L, -9223372036854775808 ≤ d ∧ d ≤ 9223372036854775807) (hS : Sl w (.slice ao L.length cp) L) : Calls Try.prog 5 #[.agg #[.int .i64 r, .int .i64 c, .int .i64 n, .slice ao L.length cp], .int .i64 row, .int .i64 col] w fun e w' => e = .returned (.bool true) ∧ Below w.heap.size w w' := by
  suffices h : Calls Try.prog 5 #[.agg #[.int .i64 r, .int .i64 c, .int .i64 n, .slice ao L.length cp], .int .i64 row, .int .i64 col] w fun e w' => e = .returned (.bool true) ∧ Bl w w' by
    refine h.mono ?_
    rintro e w' ⟨rfl, k⟩
    exact ⟨rfl, k.below⟩
  by_cases hlen : 5000 < L.length
  · exact ts_long r c n row col L hlen ao cp w
  · by_cases hq : ckM r c n L = 0
    · by_cases hE : strE r c row col = 0
      · obtain ⟨hs, hl, -⟩ := ckM_ok hq
        obtain ⟨hn, hr, hc, hrc⟩ := ckS_ok hs
        obtain ⟨R, rfl⟩ := Int.eq_ofNat_of_zero_le (show 0 ≤ r by omega)
        obtain ⟨C, rfl⟩ := Int.eq_ofNat_of_zero_le (show 0 ≤ c by omega)
        have hL : L.length = R * C := by
          have : (L.length : Int) = ((R * C : Nat) : Int) := by rw [hl]; simp
          omega
        have hRC : R * C ≤ 4096 := by
          have : ((R * C : Nat) : Int) ≤ 4096 := by simpa using hrc
          omega
        have hpos : 0 < R * C := Nat.mul_pos (by omega) (by omega)
        have hne : L ≠ [] := by intro h; subst h; simp at hL; omega
        have hS' := hS
        obtain ⟨ao', cap', e, hcp, -, hrd⟩ := hS'
        cases e
        obtain ⟨b, off, rfl, hb, hrd⟩ := hrd hne
        have hRg : Rgl L := fun i hi => by
          rw [List.getD_eq_getElem?_getD, List.getElem?_eq_getElem hi]
          exact hR _ (List.getElem_mem hi)
        have hE' := hE
        unfold strE at hE'
        split at hE'
        · omega
        · rename_i hst
          have hst' : stq R row ∧ stq C col := Classical.not_not.1 hst
          obtain ⟨s1, s2⟩ := hst'
          obtain ⟨rs, rfl⟩ := Int.eq_ofNat_of_zero_le (show 0 ≤ row by unfold stq at s1; omega)
          obtain ⟨cs, rfl⟩ := Int.eq_ofNat_of_zero_le (show 0 ≤ col by unfold stq at s2; omega)
          have q1 : rs = R ∨ (R = 1 ∧ 0 < rs) := by unfold stq at s1; omega
          have q2 : cs = C ∨ (C = 1 ∧ 0 < cs) := by unfold stq at s2; omega
          have hz : ckS rs cs n = 0 := by
            unfold ckS
            rw [if_neg (fun k => k hn), if_neg (by omega)]
            exact hE'
          have h4 := (ckS_ok hz).2.2.2
          have hrc' : rs * cs ≤ 4096 := by
            have : ((rs * cs : Nat) : Int) ≤ 4096 := by simpa using h4
            omega
          exact ts_ok R C rs cs n hn (by omega) (by omega) hRC q1 q2 hrc' L hL hRg hq b off cp (by omega) w hb hrd hS
      · exact ts_bad r c n row col L (by omega) ao cp w hS hq _ rfl hE
    · exact ts_no r c n row col L (by omega) ao cp w hS _ rfl hq
end Go.Proofs.Ytckcfdkffjkkbaa
