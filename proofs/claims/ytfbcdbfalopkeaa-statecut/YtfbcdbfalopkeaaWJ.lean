/- StateCut: the law. -/
import Derived.Test.YtfbcdbfalopkeaaWH
import Derived.Test.YtfbcdbfalopkeaaWI
namespace Go.Proofs.Ytfbcdbfalopkeaa
open Go.ChangeShapes Go.WideShapes Go.ChangeAt Go.RowKit
set_option linter.unusedVariables false
set_option linter.unusedSimpArgs false

set_option maxHeartbeats 16000000 in
set_option maxRecDepth 100000 in
theorem stateCut_true (v : Value) (s : Sta) (ct : Int) (hc1 : -9223372036854775808 ≤ ct) (hc2 : ct ≤ 9223372036854775807) (w : World) (hS : StI w v s) (hrg : SRg s) (hsl : SLen s) :
    Calls Try.prog 4 #[v, .int .i64 ct] w fun e w' => e = .returned (.bool true) ∧ Kept w w' := by
  have HA := hid alive23
  have HBulk : Hid (∀ u, Kept w u → Calls Try.prog 8 #[v] u fun e w' => (∃ x, e = .returned (.int .i64 x)) ∧ Kept u w') := fun u ku => bulk_any v s hsl.p hsl.q hsl.l u (hS.kept ku)
  have HW : Hid (∀ u, Kept w u → Calls Try.prog 10 #[v] u fun e w' => Kept u w' ∧ WrP u.heap.size s e w') := fun u ku => write_any v s hsl.p hsl.q u (hS.kept ku)
  have HSZ : Hid (∀ u, Calls Try.prog 13 #[zst, zst] u fun e w' => e = .returned (.bool true) ∧ Kept u w') := fun u => same_true sta0 zst zst (by decide) (by decide) (by decide) u (zst_st u) (zst_st u)
  have HFs : Hid (Frm s → 0 < (enc s).length ∧ (enc s).length ≤ 14000000) := fun h => by
    have := (enc_parts h hrg)
    omega
  have HRC : Hid (Frm s → ∀ (k : Nat) ao c u, k < (enc s).length → k ≤ c → ((enc s).take k ≠ [] → ∃ b off, ao = some ⟨b, off, none⟩ ∧ b < u.heap.size ∧ BR u b off ((enc s).take k)) → Calls Try.prog 12 #[.slice ao k c] u fun e w' => Kept u w' ∧ e = .returned (.tuple #[zst, .int .i64 (k : Int), .int .i64 50])) := fun hF k ao c u hk hkc h => by
    have hl : ((enc s).take k).length = k := by rw [List.length_take]; omega
    have hby : Byt ((enc s).take k) := fun i hi => by
      rw [hl] at hi
      rw [take_getD _ _ _ hi]
      exact (byt_enc s).at i
    have := read_any ao c ((enc s).take k) hby (by rw [hl]; exact hkc) u h
    rw [hl, read_cut hF hrg k hk] at this
    refine this.mono ?_
    rintro e w' ⟨k1, h1⟩
    exact ⟨k1, h1⟩
  have HRM : Hid (Frm s → ∀ ao c u, (enc s).length + 1 ≤ c → (enc s ++ [0] ≠ [] → ∃ b off, ao = some ⟨b, off, none⟩ ∧ b < u.heap.size ∧ BR u b off (enc s ++ [0])) → Calls Try.prog 12 #[.slice ao ((enc s).length + 1) c] u fun e w' => Kept u w' ∧ e = .returned (.tuple #[zst, .int .i64 ((enc s).length : Int), .int .i64 51])) := fun hF ao c u hkc h => by
    have hl : (enc s ++ [0]).length = (enc s).length + 1 := by simp
    have := read_any ao c (enc s ++ [0]) ((byt_enc s).app (byt_one 0 (by decide))) (by rw [hl]; exact hkc) u h
    rw [hl, read_more hF hrg 0] at this
    refine this.mono ?_
    rintro e w' ⟨k1, h1⟩
    exact ⟨k1, h1⟩
  have HWi : Hid (∀ (n : Nat) u, 0 < n → Calls Try.prog 14 #[.int .i64 ct, .int .i64 (n : Int)] u fun e w' => (∃ k : Nat, k < n ∧ e = .returned (.int .i64 (k : Int))) ∧ Kept u w') := fun n u hn => within_any ct n hc1 hc2 hn u
  obtain ⟨pa, pc, qa, qc, rfl⟩ := hS.form
  clear hS hrg hsl hc1 hc2
  obtain ⟨n, hn⟩ : ∃ n, (enc s).length = n := ⟨_, rfl⟩
  rw [hn] at HFs HRC HRM
  have HEn := hid hn
  clear hn
  generalize s.P.length = pl at *
  generalize s.Q.length = ql at *
  generalize s.a = sa at *
  generalize s.b = sb at *
  generalize s.d = sd at *
  generalize s.lo = lo at *
  generalize s.ra = ra at *
  obtain ⟨M, hM⟩ : ∃ M, w.heap.size = M := ⟨_, rfl⟩
  obtain ⟨W0, hW0⟩ : ∃ W0, w.alloc (.cells #[.int .i64 sa, .int .i64 sb, .int .i64 sd, .slice pa pl pc, .slice qa ql qc, .int .i64 lo, .int .i64 ra] 25) = W0 := ⟨_, rfl⟩
  have k0 : Kept w W0 := by rw [← hW0]; exact (Kept.refl w).alloc _ _
  have b0 : Bk W0 M [.int .i64 sa, .int .i64 sb, .int .i64 sd, .slice pa pl pc, .slice qa ql qc, .int .i64 lo, .int .i64 ra] := by rw [← hW0, ← hM]; exact Bk.new w _ _
  have HBk := hid (show ∀ u, Kept W0 u → u.cell? ⟨M, 0, none⟩ = some (.int .i64 sa) ∧ u.cell? ⟨M, 1, none⟩ = some (.int .i64 sb) ∧ u.cell? ⟨M, 2, none⟩ = some (.int .i64 sd) ∧ u.cell? ⟨M, 3, none⟩ = some (.slice pa pl pc) ∧ u.cell? ⟨M, 4, none⟩ = some (.slice qa ql qc) ∧ u.cell? ⟨M, 5, none⟩ = some (.int .i64 lo) ∧ u.cell? ⟨M, 6, none⟩ = some (.int .i64 ra) from fun u ku => by
    have b := b0.kept ku
    exact ⟨b.c 0 _ rfl, b.c 1 _ rfl, b.c 2 _ rfl, b.c 3 _ rfl, b.c 4 _ rfl, b.c 5 _ rfl, b.c 6 _ rfl⟩)
  have HK0 := hid k0
  obtain ⟨x0, x1, x2, x3, x4, x5, x6⟩ := HBk.out W0 (Kept.refl W0)
  clear k0 b0
  go_enter Try.func4, Try.ntmps4
  go_wp2_with fail
  go_at_call 8
  refine (HBulk.out W0 HK0.out).mono ?_
  rintro e w1 ⟨⟨x, rfl⟩, k1⟩
  have K1 := hid k1
  clear k1 hM hW0 x0 x1 x2 x3 x4 x5 x6
  by_cases hx : 40000 < x
  · have hxd : decide (40000 < x) = true := decide_eq_true hx
    go_wp2_with (first | (go_at_call 9; refine (HA.out _).mono ?_; rintro e w2 ⟨rfl, k2⟩))
    go_ret
    exact ⟨rfl, HK0.out.trans (K1.out.trans k2)⟩
  have hxd : decide (40000 < x) = false := decide_eq_false hx
  have HWc := hid (HW.out w1 (HK0.out.trans K1.out))
  obtain ⟨x0, x1, x2, x3, x4, x5, x6⟩ := HBk.out w1 K1.out
  go_wp2_with fail
  go_at_call 10
  refine HWc.out.mono ?_
  rintro e w2 ⟨k2, hwr⟩
  have K2 := hid (K1.out.trans k2)
  have K1x := hid K1.out
  clear x0 x1 x2 x3 x4 x5 x6 hx hxd k2 HWc HBulk K1
  rcases (show _ ∨ _ from hwr).symm with ⟨hF, rfl⟩ | ⟨hF, g, rfl, hg, ho⟩
  · clear hF
    go_wp2_with fail
    go_at_call 9
    refine (HA.out _).mono ?_
    rintro e w3 ⟨rfl, k3⟩
    go_wp2_with fail
    go_at_call 9
    refine (HA.out _).mono ?_
    rintro e w4 ⟨rfl, k4⟩
    go_wp2_with fail
    go_ret
    exact ⟨rfl, HK0.out.trans ((K2.out.trans k3).trans k4)⟩
  rw [HEn.out] at ho ⊢
  have HO := hid ho
  obtain ⟨hn0, hnm⟩ := HFs.out hF
  have HFr := hid hF
  have hnz : ((n : Int) == 0) = false := by simp; omega
  have hnz2 : (n == 0) = false := by simp; omega
  have HNm := hid (show 0 < n ∧ n ≤ 14000000 from ⟨hn0, hnm⟩)
  have HG := hid (show w.heap.size ≤ g from Nat.le_trans (HK0.out.trans K1x.out).below.size hg)
  clear ho hn0 hnm hg hF
  go_wp2_with fail
  go_at_call 9
  refine (HA.out _).mono ?_
  rintro e w3 ⟨rfl, k3⟩
  have HO3 := hid (HO.out.kept k3)
  have K3 := hid (K2.out.trans k3)
  have HWn := hid (HWi.out n w3 HNm.out.1)
  clear k3 HO K2
  go_wp2_with fail
  go_at_call 14
  refine HWn.out.mono ?_
  rintro e w4 ⟨⟨k, hk, rfl⟩, k4⟩
  have HO4 := hid (HO3.out.kept k4)
  have K4 := hid (K3.out.trans k4)
  have HKn := hid hk
  clear k4 HO3 K3 HWn hk
  obtain ⟨hk, hkc⟩ : k < n ∧ k ≤ n := ⟨HKn.out, Nat.le_of_lt HKn.out⟩
  have hb1 : (0 : Int) ≤ (k : Int) ∧ (k : Int) ≤ (n : Int) := by omega
  have hb2 : (k : Int) ≤ (n : Int) := by omega
  have htl : ((enc s).take k).length = k := by rw [List.length_take]; have := HEn.out; omega
  have hbr := own_br HO4.out
  obtain ⟨vA, wA, hrun, kA, hBN⟩ := bapp_nil ((enc s).take k) (by rw [htl]; have := HNm.out; omega) (some ⟨g, 0, none⟩) n w4 (fun hne => by
    obtain ⟨b, off, e, hbl, hr⟩ := hbr (fun e => hne (by rw [e]; simp))
    refine ⟨b, off, e, hbl, fun i hi => ?_⟩
    rw [htl] at hi
    rw [take_getD _ _ _ hi]
    exact hr i (by have := HEn.out; omega))
  obtain ⟨aA, cA, rfl, hlA, hrA⟩ := hBN.rd
  rw [htl] at hrun hlA
  have HRun := hid hrun
  have HRc := hid (HRC.out HFr.out k aA cA wA hk hlA hrA)
  have KA := hid (K4.out.trans kA)
  have HOA := hid (HO4.out.kept kA)
  clear hrun hrA hlA hBN kA htl hbr hk hkc HO4 K4 HRC
  go_wp2_with (first | (at_builtin; refine wpList_append_run rfl _ _ _ rfl _ _ rfl rfl _ _ (HRun.out _) ?_))
  go_at_call 12
  refine HRc.out.mono ?_
  rintro e w5 ⟨k5, rfl⟩
  obtain ⟨D, hD⟩ : ∃ D, w5.heap.size = D := ⟨_, rfl⟩
  obtain ⟨W5, hW5⟩ : ∃ W5, w5.alloc (.cells #[.int .i64 0, .int .i64 0, .int .i64 0, .slice none 0 0, .slice none 0 0, .int .i64 0, .int .i64 0] 25) = W5 := ⟨_, rfl⟩
  have kw5 : Kept w5 W5 := by rw [← hW5]; exact (Kept.refl w5).alloc _ _
  have b5 : Bk W5 D zsl := by rw [← hW5, ← hD]; exact Bk.new w5 _ _
  have K5 := hid (KA.out.trans (k5.trans kw5))
  have HO5 := hid (HOA.out.kept (k5.trans kw5))
  have HD := hid (show w.heap.size ≤ D from by rw [← hD]; exact (HK0.out.trans (KA.out.trans k5)).below.size)
  have HW5 := hid hW5
  clear hW5 kw5 k5 KA HOA HRc HRun hb1 hb2
  go_wp2_with fail
  (try rw [HW5.out])
  (try rw [hD])
  clear HW5 hD
  go_at_call 13
  refine (HSZ.out W5).mono ?_
  rintro e w6 ⟨rfl, k6⟩
  have b6 := b5.kept k6
  have K6 := hid (K5.out.trans k6)
  have ho6 := HO5.out.kept k6
  clear b5 k6 HO5 K5
  obtain ⟨vB, wB, hrunB, kB, hBNB⟩ := bapp_nil (enc s) (by have := HNm.out; have := HEn.out; omega) (some ⟨g, 0, none⟩) n w6 (own_br ho6)
  obtain ⟨vC, wC, hrunC, hBNC, kC⟩ := bapp_one w6.heap.size wB vB (enc s) hBNB kB.below.size (by have := HNm.out; have := HEn.out; omega) 0
  obtain ⟨aB, cB, rfl, -, -⟩ := hBNB.rd
  obtain ⟨aC, cC, rfl, hlC, hrC⟩ := hBNC.rd
  have hll : (enc s ++ [0]).length = n + 1 := by rw [List.length_append, HEn.out]; rfl
  rw [hll] at hrunC hlC
  rw [HEn.out] at hrunB hrunC
  have HRB := hid hrunB
  have HRC2 := hid hrunC
  have HRc := hid (HRM.out HFr.out aC cC wC hlC hrC)
  have k6C : Kept w6 wC := kept_of_kx kB kC (fun b hb => hb)
  have KC := hid (K6.out.trans k6C)
  have bC := hid (b6.kept k6C)
  clear hrunB hrunC hlC hrC hll k6C kB kC hBNB hBNC b6 ho6 K6 HRM
  go_wp2_with (first | (at_builtin; refine wpList_append_run rfl _ _ _ rfl _ _ rfl rfl _ _ (HRB.out _) ?_; clear HRB) | (at_builtin; refine wpList_append_run rfl _ _ _ rfl _ _ rfl rfl _ _ (HRC2.out _) ?_; clear HRC2))
  go_at_call 12
  refine HRc.out.mono ?_
  rintro e w7 ⟨k7, rfl⟩
  have b7 := bC.out.kept k7
  have y0 := b7.c 0 _ rfl
  have y1 := b7.c 1 _ rfl
  have y2 := b7.c 2 _ rfl
  have y3 := b7.c 3 _ rfl
  have y4 := b7.c 4 _ rfl
  have y5 := b7.c 5 _ rfl
  have y6 := b7.c 6 _ rfl
  have yf := b7.fz
  obtain ⟨Y, hY⟩ : ∃ Y, (((((((w7.setCell ⟨D, 0, none⟩ (.int .i64 0)).setCell ⟨D, 1, none⟩ (.int .i64 0)).setCell ⟨D, 2, none⟩ (.int .i64 0)).setCell ⟨D, 3, none⟩ (.slice none 0 0)).setCell ⟨D, 4, none⟩ (.slice none 0 0)).setCell ⟨D, 5, none⟩ (.int .i64 0)).setCell ⟨D, 6, none⟩ (.int .i64 0)) = Y := ⟨_, rfl⟩
  have bY : Bk Y D zsl := by rw [← hY]; exact (((((((b7.set 0 _).set 1 _).set 2 _).set 3 _).set 4 _).set 5 _).set 6 _)
  have kY : KX (fun b => b = D) w7 Y := by rw [← hY]; exact ((((((((Grw.refl D w7).setCell 0 _).setCell 1 _).setCell 2 _).setCell 3 _).setCell 4 _).setCell 5 _).setCell 6 _).kx
  have KY := hid (kept_of_kx (HK0.out.trans (KC.out.trans k7)) kY (fun b hb => by have := HD.out; omega))
  have z0 := bY.c 0 _ rfl
  have z1 := bY.c 1 _ rfl
  have z2 := bY.c 2 _ rfl
  have z3 := bY.c 3 _ rfl
  have z4 := bY.c 4 _ rfl
  have z5 := bY.c 5 _ rfl
  have z6 := bY.c 6 _ rfl
  clear b7 bY kY k7 bC KC HRc
  go_wp2_with fail
  go_at_call 13
  refine (HSZ.out _).mono ?_
  rintro e w8 ⟨rfl, k8⟩
  go_wp2_with fail
  go_ret
  exact ⟨rfl, KY.out.trans k8⟩
end Go.Proofs.Ytfbcdbfalopkeaa
