/- StateForms: a state in form in which one thing is wrong is refused. -/
import Derived.Test.YtfbcdbfalopkeaaXG
namespace Go.Proofs.Ytfbcdbfalopkeaa
open Go.ChangeShapes Go.WideShapes Go.ChangeAt Go.RowKit
set_option linter.unusedVariables false
set_option linter.unusedSimpArgs false

theorem lmmake_run (n : Nat) (hn : n < 100000) (w : World) : (Instr.makeSlice 22 (.int .i64 (n : Int)) (.int .i64 (n : Int))).run Try.prog w = .ok (.slice (some ⟨w.heap.size, 0, none⟩) n n) (w.alloc (.cells (madeCells #[.int .i64 0, .int .i64 0, .int .i64 0, .slice none 0 0] (n * 4)) 43)) := by
  obtain ⟨i, hi, hz, hs, hby⟩ := info_parts (mat_info)
  have := run_make (P := Try.prog) w 22 43 i (.agg #[.int .i64 0, .int .i64 0, .int .i64 0, .slice none 0 0]) mat_under hi hz .i64 .i64 (n : Int) (n : Int) (by omega) (by omega) (by rw [hby]; omega) (by omega)
  rw [hs, Int.toNat_natCast] at this
  exact this
theorem llmake_run (n : Nat) (hn : n < 100000) (w : World) : (Instr.makeSlice 23 (.int .i64 (n : Int)) (.int .i64 (n : Int))).run Try.prog w = .ok (.slice (some ⟨w.heap.size, 0, none⟩) n n) (w.alloc (.cells (madeCells #[.slice none 0 0] n) 22)) := by
  obtain ⟨i, hi, hz, hs, hby⟩ := info_parts (lm_info)
  have := run_make (P := Try.prog) w 23 22 i (.slice none 0 0) lm_under hi hz .i64 .i64 (n : Int) (n : Int) (by omega) (by omega) (by rw [hby]; omega) (by omega)
  rw [hs, Int.toNat_natCast, Nat.mul_one] at this
  exact this

set_option maxHeartbeats 16000000 in
set_option maxRecDepth 100000 in
theorem stateForms_true (v : Value) (s : Sta) (wt at_ : Int) (hc1 : -9223372036854775808 ≤ wt) (hc2 : wt ≤ 9223372036854775807) (w : World) (hS : StI w v s) (hsl : SLen s) :
    Calls Try.prog 6 #[v, .int .i64 wt, .int .i64 at_] w fun e w' => e = .returned (.bool true) ∧ Kept w w' := by
  have HA := hid alive23
  have HBulk : Hid (∀ u, Kept w u → Calls Try.prog 8 #[v] u fun e w' => (∃ x, e = .returned (.int .i64 x)) ∧ Kept u w') := fun u ku => bulk_any v s hsl.p hsl.q hsl.l u (hS.kept ku)
  have HC : Hid (∀ u, Kept w u → Calls Try.prog 11 #[v] u fun e w' => Kept u w' ∧ ((Frm s ∧ e = .returned (.int .i64 0)) ∨ (¬ Frm s ∧ e = .returned (.int .i64 43)))) := fun u ku => checkf_any v s hsl.p hsl.q u (hS.kept ku)
  have HL : Hid (Frm s → ∀ u, Kept w u → Calls Try.prog 15 #[v] u fun e w' => ∃ x, e = .returned x ∧ SnL u.heap.size w' x s ∧ Kept u w') := fun hF u ku => lentS_any v s hF.sm.1 hF.sm.2.1 hF.sm.2.2.1 hF.sm.2.2.2 u (hS.kept ku)
  have HWr : Hid (∀ v' s' u, StI u v' s' → s'.P.length ≤ 9223372036854775807 → s'.Q.length ≤ 9223372036854775807 → ¬ Frm s' → Calls Try.prog 10 #[v'] u fun e w' => Kept u w' ∧ e = .returned (.tuple #[.slice none 0 0, .int .i64 43])) := fun v' s' u h hp hq hn => (write_any v' s' hp hq u h).mono (by
    rintro e w' ⟨k, ⟨hF, -⟩ | ⟨-, h⟩⟩
    · exact absurd hF hn
    · exact ⟨k, h⟩)
  have HCk : Hid (∀ v' s' u, StI u v' s' → s'.P.length ≤ 9223372036854775807 → s'.Q.length ≤ 9223372036854775807 → ¬ Frm s' → Calls Try.prog 11 #[v'] u fun e w' => Kept u w' ∧ e = .returned (.int .i64 43)) := fun v' s' u h hp hq hn => (checkf_any v' s' hp hq u h).mono (by
    rintro e w' ⟨k, ⟨hF, -⟩ | ⟨-, h⟩⟩
    · exact absurd hF hn
    · exact ⟨k, h⟩)
  have HWi : Hid (∀ u, Calls Try.prog 14 #[.int .i64 wt, .int .i64 14] u fun e w' => (∃ k : Nat, k < 14 ∧ e = .returned (.int .i64 (k : Int))) ∧ Kept u w') := fun u => within_any wt 14 hc1 hc2 (by decide) u
  obtain ⟨pa, pc, qa, qc, rfl⟩ := hS.form
  clear hS hsl hc1 hc2
  have HEQ := hid (show s.a = s.a ∧ s.b = s.b ∧ s.d = s.d ∧ s.P.length = s.P.length ∧ s.Q.length = s.Q.length ∧ s.lo = s.lo ∧ s.ra = s.ra from ⟨rfl, rfl, rfl, rfl, rfl, rfl, rfl⟩)
  obtain ⟨pl, hpl⟩ : ∃ x, s.P.length = x := ⟨_, rfl⟩
  obtain ⟨ql, hql⟩ : ∃ x, s.Q.length = x := ⟨_, rfl⟩
  obtain ⟨sa, hsa⟩ : ∃ x, s.a = x := ⟨_, rfl⟩
  obtain ⟨sb, hsb⟩ : ∃ x, s.b = x := ⟨_, rfl⟩
  obtain ⟨sd, hsd⟩ : ∃ x, s.d = x := ⟨_, rfl⟩
  obtain ⟨lo, hlo⟩ : ∃ x, s.lo = x := ⟨_, rfl⟩
  obtain ⟨ra, hra⟩ : ∃ x, s.ra = x := ⟨_, rfl⟩
  rw [hpl, hql, hsa, hsb, hsd, hlo, hra] at HBulk HC HL ⊢
  clear HEQ
  have HEQ := hid (show s.a = sa ∧ s.b = sb ∧ s.d = sd ∧ s.P.length = pl ∧ s.Q.length = ql ∧ s.lo = lo ∧ s.ra = ra from ⟨hsa, hsb, hsd, hpl, hql, hlo, hra⟩)
  clear hpl hql hsa hsb hsd hlo hra
  obtain ⟨M, hM⟩ : ∃ M, w.heap.size = M := ⟨_, rfl⟩
  obtain ⟨W0, hW0⟩ : ∃ W0, w.alloc (.cells #[.int .i64 sa, .int .i64 sb, .int .i64 sd, .slice pa pl pc, .slice qa ql qc, .int .i64 lo, .int .i64 ra] 25) = W0 := ⟨_, rfl⟩
  have k0 : Kept w W0 := by rw [← hW0]; exact (Kept.refl w).alloc _ _
  have b0 : Bk W0 M [.int .i64 sa, .int .i64 sb, .int .i64 sd, .slice pa pl pc, .slice qa ql qc, .int .i64 lo, .int .i64 ra] := by rw [← hW0, ← hM]; exact Bk.new w _ _
  have HBk := hid (show ∀ u, Kept W0 u → u.cell? ⟨M, 0, none⟩ = some (.int .i64 sa) ∧ u.cell? ⟨M, 1, none⟩ = some (.int .i64 sb) ∧ u.cell? ⟨M, 2, none⟩ = some (.int .i64 sd) ∧ u.cell? ⟨M, 3, none⟩ = some (.slice pa pl pc) ∧ u.cell? ⟨M, 4, none⟩ = some (.slice qa ql qc) ∧ u.cell? ⟨M, 5, none⟩ = some (.int .i64 lo) ∧ u.cell? ⟨M, 6, none⟩ = some (.int .i64 ra) from fun u ku => by
    have b := b0.kept ku
    exact ⟨b.c 0 _ rfl, b.c 1 _ rfl, b.c 2 _ rfl, b.c 3 _ rfl, b.c 4 _ rfl, b.c 5 _ rfl, b.c 6 _ rfl⟩)
  have HK0 := hid k0
  obtain ⟨x0, x1, x2, x3, x4, x5, x6⟩ := HBk.out W0 (Kept.refl W0)
  clear k0 b0
  go_enter Try.func6, Try.ntmps6
  go_wp2_with fail
  go_at_call 8
  refine (HBulk.out W0 HK0.out).mono ?_
  rintro e w1 ⟨⟨x, rfl⟩, k1⟩
  have K1 := hid k1
  clear k1 hM hW0 x0 x1 x2 x3 x4 x5 x6
  by_cases hx : 40000 < x
  · have hxd : decide (40000 < x) = true := decide_eq_true hx
    go_wp2_with (first | (go_at_call 9; refine (HA.out _).mono ?_; rintro e w2 ⟨rfl, k2⟩))
    go_ret
    exact ⟨rfl, HK0.out.trans (K1.out.trans k2)⟩
  have hxd : decide (40000 < x) = false := decide_eq_false hx
  go_wp2_with fail
  go_at_call 9
  refine (HA.out _).mono ?_
  rintro e w2 ⟨rfl, k2⟩
  have K2 := hid (K1.out.trans k2)
  have HCc := hid (HC.out w2 (HK0.out.trans K2.out))
  obtain ⟨x0, x1, x2, x3, x4, x5, x6⟩ := HBk.out w2 K2.out
  clear k2 K1 hx hxd HBulk HC
  go_wp2_with fail
  go_at_call 11
  refine HCc.out.mono ?_
  rintro e w3 ⟨k3, hck⟩
  have K3 := hid (K2.out.trans k3)
  clear k3 K2 HCc x0 x1 x2 x3 x4 x5 x6
  rcases (show _ ∨ _ from hck).symm with ⟨hF, rfl⟩ | ⟨hF, rfl⟩
  · clear hF
    go_wp2_with (first | (go_at_call 9; refine (HA.out _).mono ?_; rintro e w4 ⟨rfl, k4⟩))
    go_ret
    exact ⟨rfl, HK0.out.trans (K3.out.trans k4)⟩
  have HFr := hid hF
  have HLc := hid (HL.out hF w3 (HK0.out.trans K3.out))
  obtain ⟨x0, x1, x2, x3, x4, x5, x6⟩ := HBk.out w3 K3.out
  clear hck hF HL HA
  go_wp2_with fail
  go_at_call 15
  refine HLc.out.mono ?_
  rintro e w4 ⟨xv, rfl, ⟨pv, qv, rfl, hpv, hqv⟩, k4⟩
  obtain ⟨GP, CP, rfl, -⟩ := hpv.form
  obtain ⟨GQ, CQ, rfl, -⟩ := hqv.form
  obtain ⟨ea, eb, ed, ep, eq, el, er⟩ := HEQ.out
  rw [ep] at hpv
  rw [eq] at hqv
  rw [ea, eb, ed, ep, eq, el, er]
  have K4 := hid (HK0.out.trans (K3.out.trans k4))
  have HP := hid hpv.ml
  have HQ := hid hqv.ll
  clear ea eb ed ep eq el er hpv hqv k4 K3 HLc HBk x0 x1 x2 x3 x4 x5 x6
  obtain ⟨X, hX⟩ : ∃ X, w4.heap.size = X := ⟨_, rfl⟩
  obtain ⟨Cm, hCm⟩ : ∃ Cm, madeCells #[.int .i64 0, .int .i64 0, .int .i64 0, .slice none 0 0] 260 = Cm := ⟨_, rfl⟩
  have hmk : ∀ u : World, (Instr.makeSlice 22 (.int .i64 65) (.int .i64 65)).run Try.prog u = .ok (.slice (some ⟨u.heap.size, 0, none⟩) 65 65) (u.alloc (.cells Cm 43)) := fun u => by rw [← hCm]; exact lmmake_run 65 (by decide) u
  obtain ⟨W5, hW5⟩ : ∃ W5, (((w4.alloc (.cells #[.int .i64 sa, .int .i64 sb, .int .i64 sd, .slice (some ⟨GP, 0, none⟩) pl CP, .slice (some ⟨GQ, 0, none⟩) ql CQ, .int .i64 lo, .int .i64 ra] 25)).alloc (.cells #[.int .i64 0] 3)).alloc (.cells #[.int .i64 1, .int .i64 1, .int .i64 64, .slice (some ⟨X + 1, 0, none⟩) 1 1] 43)).alloc (.cells Cm 43) = W5 := ⟨_, rfl⟩
  have k5 : Kept w4 W5 := by rw [← hW5]; exact ((((Kept.refl w4).alloc _ _).alloc _ _).alloc _ _).alloc _ _
  have bx5 : Bk W5 X [.int .i64 sa, .int .i64 sb, .int .i64 sd, .slice (some ⟨GP, 0, none⟩) pl CP, .slice (some ⟨GQ, 0, none⟩) ql CQ, .int .i64 lo, .int .i64 ra] := by
    rw [← hW5, ← hX]
    exact (Bk.new w4 [.int .i64 sa, .int .i64 sb, .int .i64 sd, .slice (some ⟨GP, 0, none⟩) pl CP, .slice (some ⟨GQ, 0, none⟩) ql CQ, .int .i64 lo, .int .i64 ra] 25).kept ((((Kept.refl _).alloc _ _).alloc _ _).alloc _ _)
  have bo5 : Bk W5 (X + 1) [.int .i64 0] := by
    have h := (Bk.new (w4.alloc (.cells #[.int .i64 sa, .int .i64 sb, .int .i64 sd, .slice (some ⟨GP, 0, none⟩) pl CP, .slice (some ⟨GQ, 0, none⟩) ql CQ, .int .i64 lo, .int .i64 ra] 25)) [.int .i64 0] 3).kept (show Kept _ ((World.alloc _ (.cells #[.int .i64 1, .int .i64 1, .int .i64 64, .slice (some ⟨X + 1, 0, none⟩) 1 1] 43)).alloc (.cells Cm 43)) from ((Kept.refl _).alloc _ _).alloc _ _)
    rw [World.size_alloc, hX, hW5] at h
    exact h
  have bm5 : Bk W5 (X + 1 + 1) [.int .i64 1, .int .i64 1, .int .i64 64, .slice (some ⟨X + 1, 0, none⟩) 1 1] := by
    have h := (Bk.new ((w4.alloc (.cells #[.int .i64 sa, .int .i64 sb, .int .i64 sd, .slice (some ⟨GP, 0, none⟩) pl CP, .slice (some ⟨GQ, 0, none⟩) ql CQ, .int .i64 lo, .int .i64 ra] 25)).alloc (.cells #[.int .i64 0] 3)) [.int .i64 1, .int .i64 1, .int .i64 64, .slice (some ⟨X + 1, 0, none⟩) 1 1] 43).kept (show Kept _ (World.alloc _ (.cells Cm 43)) from (Kept.refl _).alloc _ _)
    rw [World.size_alloc, World.size_alloc, hX, hW5] at h
    exact h
  have bn5 : FB W5 (X + 1 + 1 + 1) 260 (fun i => mtF (.int .i64 0) (.int .i64 0) (.int .i64 0) (.slice none 0 0) (i % 4)) := by
    have h := FB.made (((w4.alloc (.cells #[.int .i64 sa, .int .i64 sb, .int .i64 sd, .slice (some ⟨GP, 0, none⟩) pl CP, .slice (some ⟨GQ, 0, none⟩) ql CQ, .int .i64 lo, .int .i64 ra] 25)).alloc (.cells #[.int .i64 0] 3)).alloc (.cells #[.int .i64 1, .int .i64 1, .int .i64 64, .slice (some ⟨X + 1, 0, none⟩) 1 1] 43)) #[.int .i64 0, .int .i64 0, .int .i64 0, .slice none 0 0] 260 43 (by decide)
    rw [hCm, World.size_alloc, World.size_alloc, World.size_alloc, hX, hW5] at h
    refine h.congr fun i _ => ?_
    have h4 : i % 4 < 4 := Nat.mod_lt _ (by decide)
    show (#[Value.int .i64 0, .int .i64 0, .int .i64 0, .slice none 0 0])[i % 4]! = _
    generalize i % 4 = j at h4
    obtain rfl | rfl | rfl | rfl : j = 0 ∨ j = 1 ∨ j = 2 ∨ j = 3 := by omega
    all_goals rfl
  have K5 := hid k5
  have HX := hid hX
  have BX5 := hid bx5
  have BO5 := hid bo5
  have BM5 := hid bm5
  have BN5 := hid bn5
  have z0 := bm5.c 0 _ rfl
  have z1 := bm5.c 1 _ rfl
  have z2 := bm5.c 2 _ rfl
  have z3 := bm5.c 3 _ rfl
  clear k5 bx5 bo5 bm5 bn5 hCm
  go_wp2_with fail
  go_loopw [10] (fun iv wr => ∃ i : Nat, i ≤ 65 ∧ iv = .int .i64 (i : Int) ∧ Kept w4 wr ∧ Bk wr X [.int .i64 sa, .int .i64 sb, .int .i64 sd, .slice (some ⟨GP, 0, none⟩) pl CP, .slice (some ⟨GQ, 0, none⟩) ql CQ, .int .i64 lo, .int .i64 ra] ∧ Bk wr (X + 1) [.int .i64 0] ∧ Bk wr (X + 1 + 1) [.int .i64 1, .int .i64 1, .int .i64 64, .slice (some ⟨X + 1, 0, none⟩) 1 1] ∧ FB wr (X + 1 + 1 + 1) 260 (fun k => if k < i * 4 then mtF (.int .i64 1) (.int .i64 1) (.int .i64 64) (.slice (some ⟨X + 1, 0, none⟩) 1 1) (k % 4) else mtF (.int .i64 0) (.int .i64 0) (.int .i64 0) (.slice none 0 0) (k % 4))) (fun iv _ => 65 - (intOf iv).toNat)
  case atStart => exact ⟨0, Nat.zero_le _, rfl, K5.out, BX5.out, BO5.out, BM5.out, BN5.out.congr fun i _ => by rw [if_neg (by omega)]⟩
  case round =>
    obtain ⟨i, hi, rfl, kr, bx, bo, bm, bn⟩ := hrel
    have z0 := bm.c 0 _ rfl
    have z1 := bm.c 1 _ rfl
    have z2 := bm.c 2 _ rfl
    have z3 := bm.c 3 _ rfl
    have KR := hid kr
    have BXr := hid bx
    have BOr := hid bo
    have BMr := hid bm
    have BNr := hid bn
    clear BX5 BO5 BM5 BN5 K5
    by_cases hin : i < 65
    · have hbd : (0 : Int) ≤ (i : Int) ∧ (i : Int) < 65 := by omega
      have hbd2 : (i : Int) < 65 := by omega
      have z9 : IntKind.i64.wrap ((i : Int) + 1) = (i : Int) + 1 := by rw [wrap_i64]; omega
      have d0 := bn.c (i * 4) (by omega)
      have d1 := bn.c (i * 4 + 1) (by omega)
      have d2 := bn.c (i * 4 + 2) (by omega)
      have d3 := bn.c (i * 4 + 3) (by omega)
      have ff := bn.fz
      have hkx : KX (fun b => b = X + 1 + 1 + 1) wr ((((wr.setCell ⟨X + 1 + 1 + 1, i * 4, none⟩ (.int .i64 1)).setCell ⟨X + 1 + 1 + 1, i * 4 + 1, none⟩ (.int .i64 1)).setCell ⟨X + 1 + 1 + 1, i * 4 + 2, none⟩ (.int .i64 64)).setCell ⟨X + 1 + 1 + 1, i * 4 + 3, none⟩ (.slice (some ⟨X + 1, 0, none⟩) 1 1)) := (((((Grw.refl (X + 1 + 1 + 1) wr).setCell _ _).setCell _ _).setCell _ _).setCell _ _).kx
      have hfb := (((bn.set (i * 4) (by omega) (.int .i64 1)).set (i * 4 + 1) (by omega) (.int .i64 1)).set (i * 4 + 2) (by omega) (.int .i64 64)).set (i * 4 + 3) (by omega) (.slice (some ⟨X + 1, 0, none⟩) 1 1)
      have HKX := hid hkx
      have HFB := hid hfb
      clear bx bo bm bn kr hkx hfb
      go_wp2_with fail
      go_roundw
      case rel =>
        refine ⟨i + 1, by omega, by go_num, kept_of_kx KR.out HKX.out (fun b hb => by have := HX.out; omega), BXr.out.kx HKX.out (by omega), BOr.out.kx HKX.out (by omega), BMr.out.kx HKX.out (by omega), HFB.out.congr fun k hk => ?_⟩
        by_cases h3 : k = i * 4 + 3
        · rw [if_pos h3, if_pos (by omega), show k % 4 = 3 by omega]; rfl
        rw [if_neg h3]
        by_cases h2 : k = i * 4 + 2
        · rw [if_pos h2, if_pos (by omega), show k % 4 = 2 by omega]; rfl
        rw [if_neg h2]
        by_cases h1 : k = i * 4 + 1
        · rw [if_pos h1, if_pos (by omega), show k % 4 = 1 by omega]; rfl
        rw [if_neg h1]
        by_cases h0 : k = i * 4
        · rw [if_pos h0, if_pos (by omega), show k % 4 = 0 by omega]; rfl
        rw [if_neg h0]
        by_cases h : k < i * 4
        · rw [if_pos h, if_pos (by omega)]
        · rw [if_neg h, if_neg (by omega)]
      case measure => simp [intOf]; omega
    · obtain rfl : i = 65 := by omega
      have BN7a := hid (bn.congr (g := fun k => mtF (.int .i64 oneM.r) (.int .i64 oneM.c) (.int .i64 oneM.n) (.slice (some ⟨X + 1, 0, none⟩) oneM.L.length 1) (k % 4)) fun k hk => by rw [if_pos (by omega)]; rfl)
      obtain ⟨Y, hY⟩ : ∃ Y, wr.heap.size = Y := ⟨_, rfl⟩
      obtain ⟨W6, hW6⟩ : ∃ W6, wr.alloc (.cells #[.int .i64 1, .int .i64 1, .int .i64 64, .slice (some ⟨X + 1, 0, none⟩) 1 1] 43) = W6 := ⟨_, rfl⟩
      have k6 : Kept wr W6 := by rw [← hW6]; exact (Kept.refl wr).alloc _ _
      have by6 : Bk W6 Y [.int .i64 1, .int .i64 1, .int .i64 64, .slice (some ⟨X + 1, 0, none⟩) 1 1] := by rw [← hW6, ← hY]; exact Bk.new wr _ _
      have hXY : X + 1 + 1 + 1 < Y := by rw [← hY]; exact bn.lt
      have K6 := hid k6
      have BY6 := hid by6
      have HSm := hid (show pl ≤ 9223372036854775807 ∧ ql ≤ 9223372036854775807 by have h1 := HFr.out.pl; have h2 := HFr.out.ql; have h3 := HEQ.out; omega)
      clear by6 k6 bx bo bm bn kr BNr hin hi
      go_wp2_with fail
      (try rw [hW6])
      go_at_call 14
      refine (HWi.out _).mono ?_
      rintro e w7 ⟨⟨k, hk, rfl⟩, k7⟩
      have K7 := hid ((KR.out.trans K6.out).trans k7)
      have BX7 := hid (BXr.out.kept (K6.out.trans k7))
      have BO7 := hid (BOr.out.kept (K6.out.trans k7))
      have BM7 := hid (BMr.out.kept (K6.out.trans k7))
      have BN7 := hid (BN7a.out.kept (K6.out.trans k7))
      have BY7 := hid (BY6.out.kept k7)
      obtain ⟨Z, hZ7⟩ : ∃ Z, w7.heap.size = Z := ⟨_, rfl⟩
      have hYZ : Y < Z := by rw [← hZ7]; exact BY7.out.lt
      clear K6 k7 BXr BOr BMr BN7a BY6 hW6 hY z0 z1 z2 z3 KR
      obtain rfl | rfl | rfl | rfl | rfl | rfl | rfl | rfl | rfl | rfl | rfl | rfl | rfl | rfl := (show k = 0 ∨ k = 1 ∨ k = 2 ∨ k = 3 ∨ k = 4 ∨ k = 5 ∨ k = 6 ∨ k = 7 ∨ k = 8 ∨ k = 9 ∨ k = 10 ∨ k = 11 ∨ k = 12 ∨ k = 13 by omega)
      · skip
        have bX_0 := BX7.out
        have bY_0 := BY7.out
        have bO_0 := BO7.out
        have bM_0 := BM7.out
        have bN_0 := BN7.out
        have kk_0 := hid (Kept.kx (Kept.refl w7) (fun b => X ≤ b))
        have hz_0 := hZ7
        have ls00 := bX_0.c 0 _ rfl
        have lf0 := bX_0.fz
        obtain ⟨u1, hu1⟩ : ∃ u1, (w7).setCell ⟨X, 0, none⟩ (.int .i64 (-1)) = u1 := ⟨_, rfl⟩
        have ks_1 : KX (fun b => b = X) w7 u1 := by rw [← hu1]; exact ((Grw.refl (X) w7).setCell _ _).kx
        have bX_1 : Bk u1 (X) [.int .i64 (-1), .int .i64 sb, .int .i64 sd, .slice (some ⟨GP, 0, none⟩) pl CP, .slice (some ⟨GQ, 0, none⟩) ql CQ, .int .i64 lo, .int .i64 ra] := by rw [← hu1]; exact (bX_0.set 0 _)
        have bY_1 := bY_0.kx ks_1 (by omega)
        have bO_1 := bO_0.kx ks_1 (by omega)
        have bM_1 := bM_0.kx ks_1 (by omega)
        have bN_1 := bN_0.kx ks_1 (by omega)
        have kk_1 := hid (kk_0.out.trans (ks_1.mono fun b hb => by omega))
        have hz_1 : u1.heap.size = Z := by rw [← hu1]; simpa using hz_0
        have KF := hid (kept_of_kx K7.out kk_1.out (fun b hb => by have := HX.out; omega))
        obtain ⟨lx0, lx1, lx2, lx3, lx4, lx5, lx6⟩ : _ ∧ _ ∧ _ ∧ _ ∧ _ ∧ _ ∧ _ := ⟨bX_1.c 0 _ rfl, bX_1.c 1 _ rfl, bX_1.c 2 _ rfl, bX_1.c 3 _ rfl, bX_1.c 4 _ rfl, bX_1.c 5 _ rfl, bX_1.c 6 _ rfl⟩
        have BXF := hid bX_1
        have hOne : Sl u1 (.slice (some ⟨X + 1, 0, none⟩) 1 1) [0] := sl_new _ [0] (X + 1) (by decide) (by decide) fun i hi => by have h2 : i < 1 := hi; obtain rfl : i = 0 := (by omega); exact bO_1.c 0 _ rfl
        have HNf := bN_1
        have HSt := hid (show StI u1 (.agg #[.int .i64 (-1), .int .i64 sb, .int .i64 sd, .slice (some ⟨GP, 0, none⟩) pl CP, .slice (some ⟨GQ, 0, none⟩) ql CQ, .int .i64 lo, .int .i64 ra]) ⟨(-1), sb, sd, s.P, s.Q, lo, ra⟩ from ⟨_, _, rfl, HP.out.kept KF.out, HQ.out.kept KF.out⟩)
        have HNo := hid (show ¬ Frm ⟨(-1), sb, sd, s.P, s.Q, lo, ra⟩ from fun f => by have h9 : stepB (-1) = true := f.a; exact absurd h9 (by decide))
        clear bX_0 bY_0 bO_0 bM_0 bN_0 bX_1 bY_1 bO_1 bM_1 bN_1 ks_1 hOne HNf
        go_wp2_with fail
        (try rw [hu1])
        go_at_call 10
        refine (HWr.out _ _ _ HSt.out (by rw [HEQ.out.2.2.2.1]; exact HSm.out.1) (by rw [HEQ.out.2.2.2.2.1]; exact HSm.out.2) HNo.out).mono ?_
        rintro e w8 ⟨k8, rfl⟩
        have KG := hid k8
        clear lx0 lx1 lx2 lx3 lx4 lx5 lx6 hu1
        obtain ⟨lx0, lx1, lx2, lx3, lx4, lx5, lx6⟩ : _ ∧ _ ∧ _ ∧ _ ∧ _ ∧ _ ∧ _ := ⟨(BXF.out.kept KG.out).c 0 _ rfl, (BXF.out.kept KG.out).c 1 _ rfl, (BXF.out.kept KG.out).c 2 _ rfl, (BXF.out.kept KG.out).c 3 _ rfl, (BXF.out.kept KG.out).c 4 _ rfl, (BXF.out.kept KG.out).c 5 _ rfl, (BXF.out.kept KG.out).c 6 _ rfl⟩
        clear k8
        go_wp2_with fail
        go_at_call 11
        refine (HCk.out _ _ _ (HSt.out.kept KG.out) (by rw [HEQ.out.2.2.2.1]; exact HSm.out.1) (by rw [HEQ.out.2.2.2.2.1]; exact HSm.out.2) HNo.out).mono ?_
        rintro e w9 ⟨k9, rfl⟩
        go_wp2_with fail
        go_ret
        exact ⟨rfl, K4.out.trans (KF.out.trans (KG.out.trans k9))⟩
      · skip
        have bX_0 := BX7.out
        have bY_0 := BY7.out
        have bO_0 := BO7.out
        have bM_0 := BM7.out
        have bN_0 := BN7.out
        have kk_0 := hid (Kept.kx (Kept.refl w7) (fun b => X ≤ b))
        have hz_0 := hZ7
        have ls01 := bX_0.c 1 _ rfl
        have lf0 := bX_0.fz
        obtain ⟨u1, hu1⟩ : ∃ u1, (w7).setCell ⟨X, 1, none⟩ (.int .i64 1099511627777) = u1 := ⟨_, rfl⟩
        have ks_1 : KX (fun b => b = X) w7 u1 := by rw [← hu1]; exact ((Grw.refl (X) w7).setCell _ _).kx
        have bX_1 : Bk u1 (X) [.int .i64 sa, .int .i64 1099511627777, .int .i64 sd, .slice (some ⟨GP, 0, none⟩) pl CP, .slice (some ⟨GQ, 0, none⟩) ql CQ, .int .i64 lo, .int .i64 ra] := by rw [← hu1]; exact (bX_0.set 1 _)
        have bY_1 := bY_0.kx ks_1 (by omega)
        have bO_1 := bO_0.kx ks_1 (by omega)
        have bM_1 := bM_0.kx ks_1 (by omega)
        have bN_1 := bN_0.kx ks_1 (by omega)
        have kk_1 := hid (kk_0.out.trans (ks_1.mono fun b hb => by omega))
        have hz_1 : u1.heap.size = Z := by rw [← hu1]; simpa using hz_0
        have KF := hid (kept_of_kx K7.out kk_1.out (fun b hb => by have := HX.out; omega))
        obtain ⟨lx0, lx1, lx2, lx3, lx4, lx5, lx6⟩ : _ ∧ _ ∧ _ ∧ _ ∧ _ ∧ _ ∧ _ := ⟨bX_1.c 0 _ rfl, bX_1.c 1 _ rfl, bX_1.c 2 _ rfl, bX_1.c 3 _ rfl, bX_1.c 4 _ rfl, bX_1.c 5 _ rfl, bX_1.c 6 _ rfl⟩
        have BXF := hid bX_1
        have hOne : Sl u1 (.slice (some ⟨X + 1, 0, none⟩) 1 1) [0] := sl_new _ [0] (X + 1) (by decide) (by decide) fun i hi => by have h2 : i < 1 := hi; obtain rfl : i = 0 := (by omega); exact bO_1.c 0 _ rfl
        have HNf := bN_1
        have HSt := hid (show StI u1 (.agg #[.int .i64 sa, .int .i64 1099511627777, .int .i64 sd, .slice (some ⟨GP, 0, none⟩) pl CP, .slice (some ⟨GQ, 0, none⟩) ql CQ, .int .i64 lo, .int .i64 ra]) ⟨sa, 1099511627777, sd, s.P, s.Q, lo, ra⟩ from ⟨_, _, rfl, HP.out.kept KF.out, HQ.out.kept KF.out⟩)
        have HNo := hid (show ¬ Frm ⟨sa, 1099511627777, sd, s.P, s.Q, lo, ra⟩ from fun f => by have h9 : stepB 1099511627777 = true := f.b; exact absurd h9 (by decide))
        clear bX_0 bY_0 bO_0 bM_0 bN_0 bX_1 bY_1 bO_1 bM_1 bN_1 ks_1 hOne HNf
        go_wp2_with fail
        (try rw [hu1])
        go_at_call 10
        refine (HWr.out _ _ _ HSt.out (by rw [HEQ.out.2.2.2.1]; exact HSm.out.1) (by rw [HEQ.out.2.2.2.2.1]; exact HSm.out.2) HNo.out).mono ?_
        rintro e w8 ⟨k8, rfl⟩
        have KG := hid k8
        clear lx0 lx1 lx2 lx3 lx4 lx5 lx6 hu1
        obtain ⟨lx0, lx1, lx2, lx3, lx4, lx5, lx6⟩ : _ ∧ _ ∧ _ ∧ _ ∧ _ ∧ _ ∧ _ := ⟨(BXF.out.kept KG.out).c 0 _ rfl, (BXF.out.kept KG.out).c 1 _ rfl, (BXF.out.kept KG.out).c 2 _ rfl, (BXF.out.kept KG.out).c 3 _ rfl, (BXF.out.kept KG.out).c 4 _ rfl, (BXF.out.kept KG.out).c 5 _ rfl, (BXF.out.kept KG.out).c 6 _ rfl⟩
        clear k8
        go_wp2_with fail
        go_at_call 11
        refine (HCk.out _ _ _ (HSt.out.kept KG.out) (by rw [HEQ.out.2.2.2.1]; exact HSm.out.1) (by rw [HEQ.out.2.2.2.2.1]; exact HSm.out.2) HNo.out).mono ?_
        rintro e w9 ⟨k9, rfl⟩
        go_wp2_with fail
        go_ret
        exact ⟨rfl, K4.out.trans (KF.out.trans (KG.out.trans k9))⟩
      · skip
        have bX_0 := BX7.out
        have bY_0 := BY7.out
        have bO_0 := BO7.out
        have bM_0 := BM7.out
        have bN_0 := BN7.out
        have kk_0 := hid (Kept.kx (Kept.refl w7) (fun b => X ≤ b))
        have hz_0 := hZ7
        have ls02 := bX_0.c 2 _ rfl
        have lf0 := bX_0.fz
        obtain ⟨u1, hu1⟩ : ∃ u1, (w7).setCell ⟨X, 2, none⟩ (.int .i64 (-9223372036854775808)) = u1 := ⟨_, rfl⟩
        have ks_1 : KX (fun b => b = X) w7 u1 := by rw [← hu1]; exact ((Grw.refl (X) w7).setCell _ _).kx
        have bX_1 : Bk u1 (X) [.int .i64 sa, .int .i64 sb, .int .i64 (-9223372036854775808), .slice (some ⟨GP, 0, none⟩) pl CP, .slice (some ⟨GQ, 0, none⟩) ql CQ, .int .i64 lo, .int .i64 ra] := by rw [← hu1]; exact (bX_0.set 2 _)
        have bY_1 := bY_0.kx ks_1 (by omega)
        have bO_1 := bO_0.kx ks_1 (by omega)
        have bM_1 := bM_0.kx ks_1 (by omega)
        have bN_1 := bN_0.kx ks_1 (by omega)
        have kk_1 := hid (kk_0.out.trans (ks_1.mono fun b hb => by omega))
        have hz_1 : u1.heap.size = Z := by rw [← hu1]; simpa using hz_0
        have KF := hid (kept_of_kx K7.out kk_1.out (fun b hb => by have := HX.out; omega))
        obtain ⟨lx0, lx1, lx2, lx3, lx4, lx5, lx6⟩ : _ ∧ _ ∧ _ ∧ _ ∧ _ ∧ _ ∧ _ := ⟨bX_1.c 0 _ rfl, bX_1.c 1 _ rfl, bX_1.c 2 _ rfl, bX_1.c 3 _ rfl, bX_1.c 4 _ rfl, bX_1.c 5 _ rfl, bX_1.c 6 _ rfl⟩
        have BXF := hid bX_1
        have hOne : Sl u1 (.slice (some ⟨X + 1, 0, none⟩) 1 1) [0] := sl_new _ [0] (X + 1) (by decide) (by decide) fun i hi => by have h2 : i < 1 := hi; obtain rfl : i = 0 := (by omega); exact bO_1.c 0 _ rfl
        have HNf := bN_1
        have HSt := hid (show StI u1 (.agg #[.int .i64 sa, .int .i64 sb, .int .i64 (-9223372036854775808), .slice (some ⟨GP, 0, none⟩) pl CP, .slice (some ⟨GQ, 0, none⟩) ql CQ, .int .i64 lo, .int .i64 ra]) ⟨sa, sb, (-9223372036854775808), s.P, s.Q, lo, ra⟩ from ⟨_, _, rfl, HP.out.kept KF.out, HQ.out.kept KF.out⟩)
        have HNo := hid (show ¬ Frm ⟨sa, sb, (-9223372036854775808), s.P, s.Q, lo, ra⟩ from fun f => by have h9 : stepB (-9223372036854775808) = true := f.d; exact absurd h9 (by decide))
        clear bX_0 bY_0 bO_0 bM_0 bN_0 bX_1 bY_1 bO_1 bM_1 bN_1 ks_1 hOne HNf
        go_wp2_with fail
        (try rw [hu1])
        go_at_call 10
        refine (HWr.out _ _ _ HSt.out (by rw [HEQ.out.2.2.2.1]; exact HSm.out.1) (by rw [HEQ.out.2.2.2.2.1]; exact HSm.out.2) HNo.out).mono ?_
        rintro e w8 ⟨k8, rfl⟩
        have KG := hid k8
        clear lx0 lx1 lx2 lx3 lx4 lx5 lx6 hu1
        obtain ⟨lx0, lx1, lx2, lx3, lx4, lx5, lx6⟩ : _ ∧ _ ∧ _ ∧ _ ∧ _ ∧ _ ∧ _ := ⟨(BXF.out.kept KG.out).c 0 _ rfl, (BXF.out.kept KG.out).c 1 _ rfl, (BXF.out.kept KG.out).c 2 _ rfl, (BXF.out.kept KG.out).c 3 _ rfl, (BXF.out.kept KG.out).c 4 _ rfl, (BXF.out.kept KG.out).c 5 _ rfl, (BXF.out.kept KG.out).c 6 _ rfl⟩
        clear k8
        go_wp2_with fail
        go_at_call 11
        refine (HCk.out _ _ _ (HSt.out.kept KG.out) (by rw [HEQ.out.2.2.2.1]; exact HSm.out.1) (by rw [HEQ.out.2.2.2.2.1]; exact HSm.out.2) HNo.out).mono ?_
        rintro e w9 ⟨k9, rfl⟩
        go_wp2_with fail
        go_ret
        exact ⟨rfl, K4.out.trans (KF.out.trans (KG.out.trans k9))⟩
      · skip
        have bX_0 := BX7.out
        have bY_0 := BY7.out
        have bO_0 := BO7.out
        have bM_0 := BM7.out
        have bN_0 := BN7.out
        have kk_0 := hid (Kept.kx (Kept.refl w7) (fun b => X ≤ b))
        have hz_0 := hZ7
        have ls03 := bX_0.c 3 _ rfl
        have lf0 := bX_0.fz
        obtain ⟨u1, hu1⟩ : ∃ u1, (w7).setCell ⟨X, 3, none⟩ (.slice (some ⟨X + 1 + 1 + 1, 0, none⟩) 65 65) = u1 := ⟨_, rfl⟩
        have ks_1 : KX (fun b => b = X) w7 u1 := by rw [← hu1]; exact ((Grw.refl (X) w7).setCell _ _).kx
        have bX_1 : Bk u1 (X) [.int .i64 sa, .int .i64 sb, .int .i64 sd, .slice (some ⟨X + 1 + 1 + 1, 0, none⟩) 65 65, .slice (some ⟨GQ, 0, none⟩) ql CQ, .int .i64 lo, .int .i64 ra] := by rw [← hu1]; exact (bX_0.set 3 _)
        have bY_1 := bY_0.kx ks_1 (by omega)
        have bO_1 := bO_0.kx ks_1 (by omega)
        have bM_1 := bM_0.kx ks_1 (by omega)
        have bN_1 := bN_0.kx ks_1 (by omega)
        have kk_1 := hid (kk_0.out.trans (ks_1.mono fun b hb => by omega))
        have hz_1 : u1.heap.size = Z := by rw [← hu1]; simpa using hz_0
        have KF := hid (kept_of_kx K7.out kk_1.out (fun b hb => by have := HX.out; omega))
        obtain ⟨lx0, lx1, lx2, lx3, lx4, lx5, lx6⟩ : _ ∧ _ ∧ _ ∧ _ ∧ _ ∧ _ ∧ _ := ⟨bX_1.c 0 _ rfl, bX_1.c 1 _ rfl, bX_1.c 2 _ rfl, bX_1.c 3 _ rfl, bX_1.c 4 _ rfl, bX_1.c 5 _ rfl, bX_1.c 6 _ rfl⟩
        have BXF := hid bX_1
        have hOne : Sl u1 (.slice (some ⟨X + 1, 0, none⟩) 1 1) [0] := sl_new _ [0] (X + 1) (by decide) (by decide) fun i hi => by have h2 : i < 1 := hi; obtain rfl : i = 0 := (by omega); exact bO_1.c 0 _ rfl
        have HNf := bN_1
        have HSt := hid (show StI u1 (.agg #[.int .i64 sa, .int .i64 sb, .int .i64 sd, .slice (some ⟨X + 1 + 1 + 1, 0, none⟩) 65 65, .slice (some ⟨GQ, 0, none⟩) ql CQ, .int .i64 lo, .int .i64 ra]) ⟨sa, sb, sd, List.replicate 65 oneM, s.Q, lo, ra⟩ from ⟨_, _, rfl, ml_many (m := oneM) (by decide) (by decide) HNf hOne, HQ.out.kept KF.out⟩)
        have HNo := hid (show ¬ Frm ⟨sa, sb, sd, List.replicate 65 oneM, s.Q, lo, ra⟩ from fun f => by have h9 := f.pl; rw [List.length_replicate] at h9; omega)
        clear bX_0 bY_0 bO_0 bM_0 bN_0 bX_1 bY_1 bO_1 bM_1 bN_1 ks_1 hOne HNf
        go_wp2_with fail
        (try rw [hu1])
        go_at_call 10
        refine (HWr.out _ _ _ HSt.out (by simp) (by rw [HEQ.out.2.2.2.2.1]; exact HSm.out.2) HNo.out).mono ?_
        rintro e w8 ⟨k8, rfl⟩
        have KG := hid k8
        clear lx0 lx1 lx2 lx3 lx4 lx5 lx6 hu1
        obtain ⟨lx0, lx1, lx2, lx3, lx4, lx5, lx6⟩ : _ ∧ _ ∧ _ ∧ _ ∧ _ ∧ _ ∧ _ := ⟨(BXF.out.kept KG.out).c 0 _ rfl, (BXF.out.kept KG.out).c 1 _ rfl, (BXF.out.kept KG.out).c 2 _ rfl, (BXF.out.kept KG.out).c 3 _ rfl, (BXF.out.kept KG.out).c 4 _ rfl, (BXF.out.kept KG.out).c 5 _ rfl, (BXF.out.kept KG.out).c 6 _ rfl⟩
        clear k8
        go_wp2_with fail
        go_at_call 11
        refine (HCk.out _ _ _ (HSt.out.kept KG.out) (by simp) (by rw [HEQ.out.2.2.2.2.1]; exact HSm.out.2) HNo.out).mono ?_
        rintro e w9 ⟨k9, rfl⟩
        go_wp2_with fail
        go_ret
        exact ⟨rfl, K4.out.trans (KF.out.trans (KG.out.trans k9))⟩
      · skip
        have bX_0 := BX7.out
        have bY_0 := BY7.out
        have bO_0 := BO7.out
        have bM_0 := BM7.out
        have bN_0 := BN7.out
        have kk_0 := hid (Kept.kx (Kept.refl w7) (fun b => X ≤ b))
        have hz_0 := hZ7
        obtain ⟨Cz, hCz⟩ : ∃ Cz, madeCells #[.slice none 0 0] 65 = Cz := ⟨_, rfl⟩
        have hmk2 : ∀ u : World, (Instr.makeSlice 23 (.int .i64 65) (.int .i64 65)).run Try.prog u = .ok (.slice (some ⟨u.heap.size, 0, none⟩) 65 65) (u.alloc (.cells Cz 22)) := fun u => by rw [← hCz]; exact llmake_run 65 (by decide) u
        obtain ⟨u1, hu1⟩ : ∃ u1, w7.alloc (.cells Cz 22) = u1 := ⟨_, rfl⟩
        have ks_1 : Kept w7 u1 := by rw [← hu1]; exact (Kept.refl _).alloc _ _
        have bX_1 := bX_0.kept ks_1
        have bY_1 := bY_0.kept ks_1
        have bO_1 := bO_0.kept ks_1
        have bM_1 := bM_0.kept ks_1
        have bN_1 := bN_0.kept ks_1
        have bF_1 : FB u1 Z 65 (fun _ => .slice none 0 0) := by
          have h := FB.made w7 #[.slice none 0 0] 65 22 (by decide)
          rw [hz_0, hCz] at h
          rw [← hu1]
          exact h.congr fun i _ => by rw [show (#[Value.slice none 0 0] : Array Value).size = 1 from rfl, Nat.mod_one]; rfl
        have kk_1 := hid (kk_0.out.trans (ks_1.kx _))
        have hz_1 : u1.heap.size = Z + 1 := by rw [← hu1, World.size_alloc, hz_0]
        have ls14 := bX_1.c 4 _ rfl
        have lf1 := bX_1.fz
        obtain ⟨u2, hu2⟩ : ∃ u2, (u1).setCell ⟨X, 4, none⟩ (.slice (some ⟨Z, 0, none⟩) 65 65) = u2 := ⟨_, rfl⟩
        have ks_2 : KX (fun b => b = X) u1 u2 := by rw [← hu2]; exact ((Grw.refl (X) u1).setCell _ _).kx
        have bX_2 : Bk u2 (X) [.int .i64 sa, .int .i64 sb, .int .i64 sd, .slice (some ⟨GP, 0, none⟩) pl CP, .slice (some ⟨Z, 0, none⟩) 65 65, .int .i64 lo, .int .i64 ra] := by rw [← hu2]; exact (bX_1.set 4 _)
        have bY_2 := bY_1.kx ks_2 (by omega)
        have bO_2 := bO_1.kx ks_2 (by omega)
        have bM_2 := bM_1.kx ks_2 (by omega)
        have bN_2 := bN_1.kx ks_2 (by omega)
        have bF_2 := bF_1.kx ks_2 (by omega)
        have kk_2 := hid (kk_1.out.trans (ks_2.mono fun b hb => by omega))
        have hz_2 : u2.heap.size = Z + 1 := by rw [← hu2]; simpa using hz_1
        have KF := hid (kept_of_kx K7.out kk_2.out (fun b hb => by have := HX.out; omega))
        obtain ⟨lx0, lx1, lx2, lx3, lx4, lx5, lx6⟩ : _ ∧ _ ∧ _ ∧ _ ∧ _ ∧ _ ∧ _ := ⟨bX_2.c 0 _ rfl, bX_2.c 1 _ rfl, bX_2.c 2 _ rfl, bX_2.c 3 _ rfl, bX_2.c 4 _ rfl, bX_2.c 5 _ rfl, bX_2.c 6 _ rfl⟩
        have BXF := hid bX_2
        have hOne : Sl u2 (.slice (some ⟨X + 1, 0, none⟩) 1 1) [0] := sl_new _ [0] (X + 1) (by decide) (by decide) fun i hi => by have h2 : i < 1 := hi; obtain rfl : i = 0 := (by omega); exact bO_2.c 0 _ rfl
        have HNf := bN_2
        have HZf := bF_2
        have HSt := hid (show StI u2 (.agg #[.int .i64 sa, .int .i64 sb, .int .i64 sd, .slice (some ⟨GP, 0, none⟩) pl CP, .slice (some ⟨Z, 0, none⟩) 65 65, .int .i64 lo, .int .i64 ra]) ⟨sa, sb, sd, s.P, List.replicate 65 [], lo, ra⟩ from ⟨_, _, rfl, HP.out.kept KF.out, ll_many HZf⟩)
        have HNo := hid (show ¬ Frm ⟨sa, sb, sd, s.P, List.replicate 65 [], lo, ra⟩ from fun f => by have h9 := f.ql; rw [List.length_replicate] at h9; omega)
        clear bX_0 bY_0 bO_0 bM_0 bN_0 bX_1 bY_1 bO_1 bM_1 bN_1 bX_2 bY_2 bO_2 bM_2 bN_2 ks_1 ks_2 hOne HNf
        go_wp2_with fail
        (try rw [hu1])
        (try rw [hu2])
        go_at_call 10
        refine (HWr.out _ _ _ HSt.out (by rw [HEQ.out.2.2.2.1]; exact HSm.out.1) (by simp) HNo.out).mono ?_
        rintro e w8 ⟨k8, rfl⟩
        have KG := hid k8
        clear lx0 lx1 lx2 lx3 lx4 lx5 lx6 hu1 hu2
        obtain ⟨lx0, lx1, lx2, lx3, lx4, lx5, lx6⟩ : _ ∧ _ ∧ _ ∧ _ ∧ _ ∧ _ ∧ _ := ⟨(BXF.out.kept KG.out).c 0 _ rfl, (BXF.out.kept KG.out).c 1 _ rfl, (BXF.out.kept KG.out).c 2 _ rfl, (BXF.out.kept KG.out).c 3 _ rfl, (BXF.out.kept KG.out).c 4 _ rfl, (BXF.out.kept KG.out).c 5 _ rfl, (BXF.out.kept KG.out).c 6 _ rfl⟩
        clear k8
        go_wp2_with fail
        go_at_call 11
        refine (HCk.out _ _ _ (HSt.out.kept KG.out) (by rw [HEQ.out.2.2.2.1]; exact HSm.out.1) (by simp) HNo.out).mono ?_
        rintro e w9 ⟨k9, rfl⟩
        go_wp2_with fail
        go_ret
        exact ⟨rfl, K4.out.trans (KF.out.trans (KG.out.trans k9))⟩
      · skip
        have bX_0 := BX7.out
        have bY_0 := BY7.out
        have bO_0 := BO7.out
        have bM_0 := BM7.out
        have bN_0 := BN7.out
        have kk_0 := hid (Kept.kx (Kept.refl w7) (fun b => X ≤ b))
        have hz_0 := hZ7
        obtain ⟨u1, hu1⟩ : ∃ u1, w7.alloc (.cells #[.slice (some ⟨X + 1 + 1 + 1, 0, none⟩) 5 65] 22) = u1 := ⟨_, rfl⟩
        have ks_1 : Kept w7 u1 := by rw [← hu1]; exact (Kept.refl _).alloc _ _
        have bX_1 := bX_0.kept ks_1
        have bY_1 := bY_0.kept ks_1
        have bO_1 := bO_0.kept ks_1
        have bM_1 := bM_0.kept ks_1
        have bN_1 := bN_0.kept ks_1
        have bZ0_1 : Bk u1 (Z) [.slice (some ⟨X + 1 + 1 + 1, 0, none⟩) 5 65] := by
          have h := Bk.new w7 [.slice (some ⟨X + 1 + 1 + 1, 0, none⟩) 5 65] 22
          rw [hz_0] at h
          rw [← hu1]
          exact h
        have kk_1 := hid (kk_0.out.trans (ks_1.kx _))
        have hz_1 : u1.heap.size = Z + 1 := by rw [← hu1, World.size_alloc, hz_0]
        have ls14 := bX_1.c 4 _ rfl
        have lf1 := bX_1.fz
        obtain ⟨u2, hu2⟩ : ∃ u2, (u1).setCell ⟨X, 4, none⟩ (.slice (some ⟨Z, 0, none⟩) 1 1) = u2 := ⟨_, rfl⟩
        have ks_2 : KX (fun b => b = X) u1 u2 := by rw [← hu2]; exact ((Grw.refl (X) u1).setCell _ _).kx
        have bX_2 : Bk u2 (X) [.int .i64 sa, .int .i64 sb, .int .i64 sd, .slice (some ⟨GP, 0, none⟩) pl CP, .slice (some ⟨Z, 0, none⟩) 1 1, .int .i64 lo, .int .i64 ra] := by rw [← hu2]; exact (bX_1.set 4 _)
        have bY_2 := bY_1.kx ks_2 (by omega)
        have bO_2 := bO_1.kx ks_2 (by omega)
        have bM_2 := bM_1.kx ks_2 (by omega)
        have bZ0_2 := bZ0_1.kx ks_2 (by omega)
        have bN_2 := bN_1.kx ks_2 (by omega)
        have kk_2 := hid (kk_1.out.trans (ks_2.mono fun b hb => by omega))
        have hz_2 : u2.heap.size = Z + 1 := by rw [← hu2]; simpa using hz_1
        have KF := hid (kept_of_kx K7.out kk_2.out (fun b hb => by have := HX.out; omega))
        obtain ⟨lx0, lx1, lx2, lx3, lx4, lx5, lx6⟩ : _ ∧ _ ∧ _ ∧ _ ∧ _ ∧ _ ∧ _ := ⟨bX_2.c 0 _ rfl, bX_2.c 1 _ rfl, bX_2.c 2 _ rfl, bX_2.c 3 _ rfl, bX_2.c 4 _ rfl, bX_2.c 5 _ rfl, bX_2.c 6 _ rfl⟩
        have BXF := hid bX_2
        have hOne : Sl u2 (.slice (some ⟨X + 1, 0, none⟩) 1 1) [0] := sl_new _ [0] (X + 1) (by decide) (by decide) fun i hi => by have h2 : i < 1 := hi; obtain rfl : i = 0 := (by omega); exact bO_2.c 0 _ rfl
        have HNf := bN_2
        have HZ0 := bZ0_2
        have HSt := hid (show StI u2 (.agg #[.int .i64 sa, .int .i64 sb, .int .i64 sd, .slice (some ⟨GP, 0, none⟩) pl CP, .slice (some ⟨Z, 0, none⟩) 1 1, .int .i64 lo, .int .i64 ra]) ⟨sa, sb, sd, s.P, [List.replicate 5 oneM], lo, ra⟩ from ⟨_, _, rfl, HP.out.kept KF.out, ll_one (by decide) HZ0 (ml_many (m := oneM) (by decide) (by decide) HNf hOne)⟩)
        have HNo := hid (show ¬ Frm ⟨sa, sb, sd, s.P, [List.replicate 5 oneM], lo, ra⟩ from fun f => by have h9 := (f.q 0 _ rfl).1; rw [List.length_replicate] at h9; omega)
        clear bX_0 bY_0 bO_0 bM_0 bN_0 bX_1 bY_1 bO_1 bM_1 bN_1 bX_2 bY_2 bO_2 bM_2 bN_2 ks_1 ks_2 hOne HNf
        go_wp2_with fail
        (try rw [hu1])
        (try rw [hu2])
        go_at_call 10
        refine (HWr.out _ _ _ HSt.out (by rw [HEQ.out.2.2.2.1]; exact HSm.out.1) (by simp) HNo.out).mono ?_
        rintro e w8 ⟨k8, rfl⟩
        have KG := hid k8
        clear lx0 lx1 lx2 lx3 lx4 lx5 lx6 hu1 hu2
        obtain ⟨lx0, lx1, lx2, lx3, lx4, lx5, lx6⟩ : _ ∧ _ ∧ _ ∧ _ ∧ _ ∧ _ ∧ _ := ⟨(BXF.out.kept KG.out).c 0 _ rfl, (BXF.out.kept KG.out).c 1 _ rfl, (BXF.out.kept KG.out).c 2 _ rfl, (BXF.out.kept KG.out).c 3 _ rfl, (BXF.out.kept KG.out).c 4 _ rfl, (BXF.out.kept KG.out).c 5 _ rfl, (BXF.out.kept KG.out).c 6 _ rfl⟩
        clear k8
        go_wp2_with fail
        go_at_call 11
        refine (HCk.out _ _ _ (HSt.out.kept KG.out) (by rw [HEQ.out.2.2.2.1]; exact HSm.out.1) (by simp) HNo.out).mono ?_
        rintro e w9 ⟨k9, rfl⟩
        go_wp2_with fail
        go_ret
        exact ⟨rfl, K4.out.trans (KF.out.trans (KG.out.trans k9))⟩
      · skip
        have bX_0 := BX7.out
        have bY_0 := BY7.out
        have bO_0 := BO7.out
        have bM_0 := BM7.out
        have bN_0 := BN7.out
        have kk_0 := hid (Kept.kx (Kept.refl w7) (fun b => X ≤ b))
        have hz_0 := hZ7
        have ls02 := bY_0.c 2 _ rfl
        have lf0 := bY_0.fz
        obtain ⟨u1, hu1⟩ : ∃ u1, (w7).setCell ⟨Y, 2, none⟩ (.int .i64 16) = u1 := ⟨_, rfl⟩
        have ks_1 : KX (fun b => b = Y) w7 u1 := by rw [← hu1]; exact ((Grw.refl (Y) w7).setCell _ _).kx
        have bY_1 : Bk u1 (Y) [.int .i64 1, .int .i64 1, .int .i64 16, .slice (some ⟨X + 1, 0, none⟩) 1 1] := by rw [← hu1]; exact (bY_0.set 2 _)
        have bX_1 := bX_0.kx ks_1 (by omega)
        have bO_1 := bO_0.kx ks_1 (by omega)
        have bM_1 := bM_0.kx ks_1 (by omega)
        have bN_1 := bN_0.kx ks_1 (by omega)
        have kk_1 := hid (kk_0.out.trans (ks_1.mono fun b hb => by omega))
        have hz_1 : u1.heap.size = Z := by rw [← hu1]; simpa using hz_0
        obtain ⟨ly10, ly11, ly12, ly13⟩ : _ ∧ _ ∧ _ ∧ _ := ⟨bY_1.c 0 _ rfl, bY_1.c 1 _ rfl, bY_1.c 2 _ rfl, bY_1.c 3 _ rfl⟩
        obtain ⟨u2, hu2⟩ : ∃ u2, u1.alloc (.cells #[.int .i64 1, .int .i64 1, .int .i64 16, .slice (some ⟨X + 1, 0, none⟩) 1 1] 43) = u2 := ⟨_, rfl⟩
        have ks_2 : Kept u1 u2 := by rw [← hu2]; exact (Kept.refl _).alloc _ _
        have bX_2 := bX_1.kept ks_2
        have bY_2 := bY_1.kept ks_2
        have bO_2 := bO_1.kept ks_2
        have bM_2 := bM_1.kept ks_2
        have bN_2 := bN_1.kept ks_2
        have bZ0_2 : Bk u2 (Z) [.int .i64 1, .int .i64 1, .int .i64 16, .slice (some ⟨X + 1, 0, none⟩) 1 1] := by
          have h := Bk.new u1 [.int .i64 1, .int .i64 1, .int .i64 16, .slice (some ⟨X + 1, 0, none⟩) 1 1] 43
          rw [hz_1] at h
          rw [← hu2]
          exact h
        have kk_2 := hid (kk_1.out.trans (ks_2.kx _))
        have hz_2 : u2.heap.size = Z + 1 := by rw [← hu2, World.size_alloc, hz_1]
        have ls23 := bX_2.c 3 _ rfl
        have lf2 := bX_2.fz
        obtain ⟨u3, hu3⟩ : ∃ u3, (u2).setCell ⟨X, 3, none⟩ (.slice (some ⟨Z, 0, none⟩) 1 1) = u3 := ⟨_, rfl⟩
        have ks_3 : KX (fun b => b = X) u2 u3 := by rw [← hu3]; exact ((Grw.refl (X) u2).setCell _ _).kx
        have bX_3 : Bk u3 (X) [.int .i64 sa, .int .i64 sb, .int .i64 sd, .slice (some ⟨Z, 0, none⟩) 1 1, .slice (some ⟨GQ, 0, none⟩) ql CQ, .int .i64 lo, .int .i64 ra] := by rw [← hu3]; exact (bX_2.set 3 _)
        have bY_3 := bY_2.kx ks_3 (by omega)
        have bO_3 := bO_2.kx ks_3 (by omega)
        have bM_3 := bM_2.kx ks_3 (by omega)
        have bZ0_3 := bZ0_2.kx ks_3 (by omega)
        have bN_3 := bN_2.kx ks_3 (by omega)
        have kk_3 := hid (kk_2.out.trans (ks_3.mono fun b hb => by omega))
        have hz_3 : u3.heap.size = Z + 1 := by rw [← hu3]; simpa using hz_2
        have KF := hid (kept_of_kx K7.out kk_3.out (fun b hb => by have := HX.out; omega))
        obtain ⟨lx0, lx1, lx2, lx3, lx4, lx5, lx6⟩ : _ ∧ _ ∧ _ ∧ _ ∧ _ ∧ _ ∧ _ := ⟨bX_3.c 0 _ rfl, bX_3.c 1 _ rfl, bX_3.c 2 _ rfl, bX_3.c 3 _ rfl, bX_3.c 4 _ rfl, bX_3.c 5 _ rfl, bX_3.c 6 _ rfl⟩
        have BXF := hid bX_3
        have hOne : Sl u3 (.slice (some ⟨X + 1, 0, none⟩) 1 1) [0] := sl_new _ [0] (X + 1) (by decide) (by decide) fun i hi => by have h2 : i < 1 := hi; obtain rfl : i = 0 := (by omega); exact bO_3.c 0 _ rfl
        have HNf := bN_3
        have HZ0 := bZ0_3
        have HSt := hid (show StI u3 (.agg #[.int .i64 sa, .int .i64 sb, .int .i64 sd, .slice (some ⟨Z, 0, none⟩) 1 1, .slice (some ⟨GQ, 0, none⟩) ql CQ, .int .i64 lo, .int .i64 ra]) ⟨sa, sb, sd, [⟨1, 1, 16, [0]⟩], s.Q, lo, ra⟩ from ⟨_, _, rfl, ml_one (m := ⟨1, 1, 16, [0]⟩) (vs := []) (by decide) HZ0 hOne, HQ.out.kept KF.out⟩)
        have HNo := hid (show ¬ Frm ⟨sa, sb, sd, [⟨1, 1, 16, [0]⟩], s.Q, lo, ra⟩ from no_p 0 _ rfl nok_16)
        clear bX_0 bY_0 bO_0 bM_0 bN_0 bX_1 bY_1 bO_1 bM_1 bN_1 bX_2 bY_2 bO_2 bM_2 bN_2 bX_3 bY_3 bO_3 bM_3 bN_3 ks_1 ks_2 ks_3 hOne HNf
        go_wp2_with fail
        (try rw [hu1])
        (try rw [hu2])
        (try rw [hu3])
        go_at_call 10
        refine (HWr.out _ _ _ HSt.out (by simp) (by rw [HEQ.out.2.2.2.2.1]; exact HSm.out.2) HNo.out).mono ?_
        rintro e w8 ⟨k8, rfl⟩
        have KG := hid k8
        clear lx0 lx1 lx2 lx3 lx4 lx5 lx6 hu1 hu2 hu3
        obtain ⟨lx0, lx1, lx2, lx3, lx4, lx5, lx6⟩ : _ ∧ _ ∧ _ ∧ _ ∧ _ ∧ _ ∧ _ := ⟨(BXF.out.kept KG.out).c 0 _ rfl, (BXF.out.kept KG.out).c 1 _ rfl, (BXF.out.kept KG.out).c 2 _ rfl, (BXF.out.kept KG.out).c 3 _ rfl, (BXF.out.kept KG.out).c 4 _ rfl, (BXF.out.kept KG.out).c 5 _ rfl, (BXF.out.kept KG.out).c 6 _ rfl⟩
        clear k8
        go_wp2_with fail
        go_at_call 11
        refine (HCk.out _ _ _ (HSt.out.kept KG.out) (by simp) (by rw [HEQ.out.2.2.2.2.1]; exact HSm.out.2) HNo.out).mono ?_
        rintro e w9 ⟨k9, rfl⟩
        go_wp2_with fail
        go_ret
        exact ⟨rfl, K4.out.trans (KF.out.trans (KG.out.trans k9))⟩
      · skip
        have bX_0 := BX7.out
        have bY_0 := BY7.out
        have bO_0 := BO7.out
        have bM_0 := BM7.out
        have bN_0 := BN7.out
        have kk_0 := hid (Kept.kx (Kept.refl w7) (fun b => X ≤ b))
        have hz_0 := hZ7
        have ls00 := bY_0.c 0 _ rfl
        have lf0 := bY_0.fz
        obtain ⟨u1, hu1⟩ : ∃ u1, (w7).setCell ⟨Y, 0, none⟩ (.int .i64 0) = u1 := ⟨_, rfl⟩
        have ks_1 : KX (fun b => b = Y) w7 u1 := by rw [← hu1]; exact ((Grw.refl (Y) w7).setCell _ _).kx
        have bY_1 : Bk u1 (Y) [.int .i64 0, .int .i64 1, .int .i64 64, .slice (some ⟨X + 1, 0, none⟩) 1 1] := by rw [← hu1]; exact (bY_0.set 0 _)
        have bX_1 := bX_0.kx ks_1 (by omega)
        have bO_1 := bO_0.kx ks_1 (by omega)
        have bM_1 := bM_0.kx ks_1 (by omega)
        have bN_1 := bN_0.kx ks_1 (by omega)
        have kk_1 := hid (kk_0.out.trans (ks_1.mono fun b hb => by omega))
        have hz_1 : u1.heap.size = Z := by rw [← hu1]; simpa using hz_0
        obtain ⟨lo10, lo11, lo12, lo13⟩ : _ ∧ _ ∧ _ ∧ _ := ⟨bM_1.c 0 _ rfl, bM_1.c 1 _ rfl, bM_1.c 2 _ rfl, bM_1.c 3 _ rfl⟩
        obtain ⟨ly10, ly11, ly12, ly13⟩ : _ ∧ _ ∧ _ ∧ _ := ⟨bY_1.c 0 _ rfl, bY_1.c 1 _ rfl, bY_1.c 2 _ rfl, bY_1.c 3 _ rfl⟩
        obtain ⟨u2, hu2⟩ : ∃ u2, u1.alloc (.cells #[.int .i64 1, .int .i64 1, .int .i64 64, .slice (some ⟨X + 1, 0, none⟩) 1 1, .int .i64 0, .int .i64 1, .int .i64 64, .slice (some ⟨X + 1, 0, none⟩) 1 1] 43) = u2 := ⟨_, rfl⟩
        have ks_2 : Kept u1 u2 := by rw [← hu2]; exact (Kept.refl _).alloc _ _
        have bX_2 := bX_1.kept ks_2
        have bY_2 := bY_1.kept ks_2
        have bO_2 := bO_1.kept ks_2
        have bM_2 := bM_1.kept ks_2
        have bN_2 := bN_1.kept ks_2
        have bZ0_2 : Bk u2 (Z) [.int .i64 1, .int .i64 1, .int .i64 64, .slice (some ⟨X + 1, 0, none⟩) 1 1, .int .i64 0, .int .i64 1, .int .i64 64, .slice (some ⟨X + 1, 0, none⟩) 1 1] := by
          have h := Bk.new u1 [.int .i64 1, .int .i64 1, .int .i64 64, .slice (some ⟨X + 1, 0, none⟩) 1 1, .int .i64 0, .int .i64 1, .int .i64 64, .slice (some ⟨X + 1, 0, none⟩) 1 1] 43
          rw [hz_1] at h
          rw [← hu2]
          exact h
        have kk_2 := hid (kk_1.out.trans (ks_2.kx _))
        have hz_2 : u2.heap.size = Z + 1 := by rw [← hu2, World.size_alloc, hz_1]
        have ls23 := bX_2.c 3 _ rfl
        have lf2 := bX_2.fz
        obtain ⟨u3, hu3⟩ : ∃ u3, (u2).setCell ⟨X, 3, none⟩ (.slice (some ⟨Z, 0, none⟩) 2 2) = u3 := ⟨_, rfl⟩
        have ks_3 : KX (fun b => b = X) u2 u3 := by rw [← hu3]; exact ((Grw.refl (X) u2).setCell _ _).kx
        have bX_3 : Bk u3 (X) [.int .i64 sa, .int .i64 sb, .int .i64 sd, .slice (some ⟨Z, 0, none⟩) 2 2, .slice (some ⟨GQ, 0, none⟩) ql CQ, .int .i64 lo, .int .i64 ra] := by rw [← hu3]; exact (bX_2.set 3 _)
        have bY_3 := bY_2.kx ks_3 (by omega)
        have bO_3 := bO_2.kx ks_3 (by omega)
        have bM_3 := bM_2.kx ks_3 (by omega)
        have bZ0_3 := bZ0_2.kx ks_3 (by omega)
        have bN_3 := bN_2.kx ks_3 (by omega)
        have kk_3 := hid (kk_2.out.trans (ks_3.mono fun b hb => by omega))
        have hz_3 : u3.heap.size = Z + 1 := by rw [← hu3]; simpa using hz_2
        have KF := hid (kept_of_kx K7.out kk_3.out (fun b hb => by have := HX.out; omega))
        obtain ⟨lx0, lx1, lx2, lx3, lx4, lx5, lx6⟩ : _ ∧ _ ∧ _ ∧ _ ∧ _ ∧ _ ∧ _ := ⟨bX_3.c 0 _ rfl, bX_3.c 1 _ rfl, bX_3.c 2 _ rfl, bX_3.c 3 _ rfl, bX_3.c 4 _ rfl, bX_3.c 5 _ rfl, bX_3.c 6 _ rfl⟩
        have BXF := hid bX_3
        have hOne : Sl u3 (.slice (some ⟨X + 1, 0, none⟩) 1 1) [0] := sl_new _ [0] (X + 1) (by decide) (by decide) fun i hi => by have h2 : i < 1 := hi; obtain rfl : i = 0 := (by omega); exact bO_3.c 0 _ rfl
        have HNf := bN_3
        have HZ0 := bZ0_3
        have HSt := hid (show StI u3 (.agg #[.int .i64 sa, .int .i64 sb, .int .i64 sd, .slice (some ⟨Z, 0, none⟩) 2 2, .slice (some ⟨GQ, 0, none⟩) ql CQ, .int .i64 lo, .int .i64 ra]) ⟨sa, sb, sd, [oneM, ⟨0, 1, 64, [0]⟩], s.Q, lo, ra⟩ from ⟨_, _, rfl, ml_two (m := oneM) (k := ⟨0, 1, 64, [0]⟩) (by decide) HZ0 hOne hOne, HQ.out.kept KF.out⟩)
        have HNo := hid (show ¬ Frm ⟨sa, sb, sd, [oneM, ⟨0, 1, 64, [0]⟩], s.Q, lo, ra⟩ from no_p 1 _ rfl nok_0)
        clear bX_0 bY_0 bO_0 bM_0 bN_0 bX_1 bY_1 bO_1 bM_1 bN_1 bX_2 bY_2 bO_2 bM_2 bN_2 bX_3 bY_3 bO_3 bM_3 bN_3 ks_1 ks_2 ks_3 hOne HNf
        go_wp2_with fail
        (try rw [hu1])
        (try rw [hu2])
        (try rw [hu3])
        go_at_call 10
        refine (HWr.out _ _ _ HSt.out (by simp) (by rw [HEQ.out.2.2.2.2.1]; exact HSm.out.2) HNo.out).mono ?_
        rintro e w8 ⟨k8, rfl⟩
        have KG := hid k8
        clear lx0 lx1 lx2 lx3 lx4 lx5 lx6 hu1 hu2 hu3
        obtain ⟨lx0, lx1, lx2, lx3, lx4, lx5, lx6⟩ : _ ∧ _ ∧ _ ∧ _ ∧ _ ∧ _ ∧ _ := ⟨(BXF.out.kept KG.out).c 0 _ rfl, (BXF.out.kept KG.out).c 1 _ rfl, (BXF.out.kept KG.out).c 2 _ rfl, (BXF.out.kept KG.out).c 3 _ rfl, (BXF.out.kept KG.out).c 4 _ rfl, (BXF.out.kept KG.out).c 5 _ rfl, (BXF.out.kept KG.out).c 6 _ rfl⟩
        clear k8
        go_wp2_with fail
        go_at_call 11
        refine (HCk.out _ _ _ (HSt.out.kept KG.out) (by simp) (by rw [HEQ.out.2.2.2.2.1]; exact HSm.out.2) HNo.out).mono ?_
        rintro e w9 ⟨k9, rfl⟩
        go_wp2_with fail
        go_ret
        exact ⟨rfl, K4.out.trans (KF.out.trans (KG.out.trans k9))⟩
      · skip
        have bX_0 := BX7.out
        have bY_0 := BY7.out
        have bO_0 := BO7.out
        have bM_0 := BM7.out
        have bN_0 := BN7.out
        have kk_0 := hid (Kept.kx (Kept.refl w7) (fun b => X ≤ b))
        have hz_0 := hZ7
        obtain ⟨u1, hu1⟩ : ∃ u1, w7.alloc (.cells #[.int .i64 0, .int .i64 0] 3) = u1 := ⟨_, rfl⟩
        have ks_1 : Kept w7 u1 := by rw [← hu1]; exact (Kept.refl _).alloc _ _
        have bX_1 := bX_0.kept ks_1
        have bY_1 := bY_0.kept ks_1
        have bO_1 := bO_0.kept ks_1
        have bM_1 := bM_0.kept ks_1
        have bN_1 := bN_0.kept ks_1
        have bZ0_1 : Bk u1 (Z) [.int .i64 0, .int .i64 0] := by
          have h := Bk.new w7 [.int .i64 0, .int .i64 0] 3
          rw [hz_0] at h
          rw [← hu1]
          exact h
        have kk_1 := hid (kk_0.out.trans (ks_1.kx _))
        have hz_1 : u1.heap.size = Z + 1 := by rw [← hu1, World.size_alloc, hz_0]
        have ls13 := bY_1.c 3 _ rfl
        have lf1 := bY_1.fz
        obtain ⟨u2, hu2⟩ : ∃ u2, (u1).setCell ⟨Y, 3, none⟩ (.slice (some ⟨Z, 0, none⟩) 2 2) = u2 := ⟨_, rfl⟩
        have ks_2 : KX (fun b => b = Y) u1 u2 := by rw [← hu2]; exact ((Grw.refl (Y) u1).setCell _ _).kx
        have bY_2 : Bk u2 (Y) [.int .i64 1, .int .i64 1, .int .i64 64, .slice (some ⟨Z, 0, none⟩) 2 2] := by rw [← hu2]; exact (bY_1.set 3 _)
        have bX_2 := bX_1.kx ks_2 (by omega)
        have bO_2 := bO_1.kx ks_2 (by omega)
        have bM_2 := bM_1.kx ks_2 (by omega)
        have bZ0_2 := bZ0_1.kx ks_2 (by omega)
        have bN_2 := bN_1.kx ks_2 (by omega)
        have kk_2 := hid (kk_1.out.trans (ks_2.mono fun b hb => by omega))
        have hz_2 : u2.heap.size = Z + 1 := by rw [← hu2]; simpa using hz_1
        obtain ⟨ly20, ly21, ly22, ly23⟩ : _ ∧ _ ∧ _ ∧ _ := ⟨bY_2.c 0 _ rfl, bY_2.c 1 _ rfl, bY_2.c 2 _ rfl, bY_2.c 3 _ rfl⟩
        obtain ⟨u3, hu3⟩ : ∃ u3, u2.alloc (.cells #[.int .i64 1, .int .i64 1, .int .i64 64, .slice (some ⟨Z, 0, none⟩) 2 2] 43) = u3 := ⟨_, rfl⟩
        have ks_3 : Kept u2 u3 := by rw [← hu3]; exact (Kept.refl _).alloc _ _
        have bX_3 := bX_2.kept ks_3
        have bY_3 := bY_2.kept ks_3
        have bO_3 := bO_2.kept ks_3
        have bM_3 := bM_2.kept ks_3
        have bZ0_3 := bZ0_2.kept ks_3
        have bN_3 := bN_2.kept ks_3
        have bZ1_3 : Bk u3 (Z + 1) [.int .i64 1, .int .i64 1, .int .i64 64, .slice (some ⟨Z, 0, none⟩) 2 2] := by
          have h := Bk.new u2 [.int .i64 1, .int .i64 1, .int .i64 64, .slice (some ⟨Z, 0, none⟩) 2 2] 43
          rw [hz_2] at h
          rw [← hu3]
          exact h
        have kk_3 := hid (kk_2.out.trans (ks_3.kx _))
        have hz_3 : u3.heap.size = Z + 1 + 1 := by rw [← hu3, World.size_alloc, hz_2]
        obtain ⟨u4, hu4⟩ : ∃ u4, u3.alloc (.cells #[.slice (some ⟨Z + 1, 0, none⟩) 1 1] 22) = u4 := ⟨_, rfl⟩
        have ks_4 : Kept u3 u4 := by rw [← hu4]; exact (Kept.refl _).alloc _ _
        have bX_4 := bX_3.kept ks_4
        have bY_4 := bY_3.kept ks_4
        have bO_4 := bO_3.kept ks_4
        have bM_4 := bM_3.kept ks_4
        have bZ0_4 := bZ0_3.kept ks_4
        have bZ1_4 := bZ1_3.kept ks_4
        have bN_4 := bN_3.kept ks_4
        have bZ2_4 : Bk u4 (Z + 1 + 1) [.slice (some ⟨Z + 1, 0, none⟩) 1 1] := by
          have h := Bk.new u3 [.slice (some ⟨Z + 1, 0, none⟩) 1 1] 22
          rw [hz_3] at h
          rw [← hu4]
          exact h
        have kk_4 := hid (kk_3.out.trans (ks_4.kx _))
        have hz_4 : u4.heap.size = Z + 1 + 1 + 1 := by rw [← hu4, World.size_alloc, hz_3]
        have ls44 := bX_4.c 4 _ rfl
        have lf4 := bX_4.fz
        obtain ⟨u5, hu5⟩ : ∃ u5, (u4).setCell ⟨X, 4, none⟩ (.slice (some ⟨Z + 1 + 1, 0, none⟩) 1 1) = u5 := ⟨_, rfl⟩
        have ks_5 : KX (fun b => b = X) u4 u5 := by rw [← hu5]; exact ((Grw.refl (X) u4).setCell _ _).kx
        have bX_5 : Bk u5 (X) [.int .i64 sa, .int .i64 sb, .int .i64 sd, .slice (some ⟨GP, 0, none⟩) pl CP, .slice (some ⟨Z + 1 + 1, 0, none⟩) 1 1, .int .i64 lo, .int .i64 ra] := by rw [← hu5]; exact (bX_4.set 4 _)
        have bY_5 := bY_4.kx ks_5 (by omega)
        have bO_5 := bO_4.kx ks_5 (by omega)
        have bM_5 := bM_4.kx ks_5 (by omega)
        have bZ0_5 := bZ0_4.kx ks_5 (by omega)
        have bZ1_5 := bZ1_4.kx ks_5 (by omega)
        have bZ2_5 := bZ2_4.kx ks_5 (by omega)
        have bN_5 := bN_4.kx ks_5 (by omega)
        have kk_5 := hid (kk_4.out.trans (ks_5.mono fun b hb => by omega))
        have hz_5 : u5.heap.size = Z + 1 + 1 + 1 := by rw [← hu5]; simpa using hz_4
        have KF := hid (kept_of_kx K7.out kk_5.out (fun b hb => by have := HX.out; omega))
        obtain ⟨lx0, lx1, lx2, lx3, lx4, lx5, lx6⟩ : _ ∧ _ ∧ _ ∧ _ ∧ _ ∧ _ ∧ _ := ⟨bX_5.c 0 _ rfl, bX_5.c 1 _ rfl, bX_5.c 2 _ rfl, bX_5.c 3 _ rfl, bX_5.c 4 _ rfl, bX_5.c 5 _ rfl, bX_5.c 6 _ rfl⟩
        have BXF := hid bX_5
        have hOne : Sl u5 (.slice (some ⟨X + 1, 0, none⟩) 1 1) [0] := sl_new _ [0] (X + 1) (by decide) (by decide) fun i hi => by have h2 : i < 1 := hi; obtain rfl : i = 0 := (by omega); exact bO_5.c 0 _ rfl
        have HNf := bN_5
        have HZ0 := bZ0_5
        have HZ1 := bZ1_5
        have HZ2 := bZ2_5
        have HSt := hid (show StI u5 (.agg #[.int .i64 sa, .int .i64 sb, .int .i64 sd, .slice (some ⟨GP, 0, none⟩) pl CP, .slice (some ⟨Z + 1 + 1, 0, none⟩) 1 1, .int .i64 lo, .int .i64 ra]) ⟨sa, sb, sd, s.P, [[⟨1, 1, 64, [0, 0]⟩]], lo, ra⟩ from ⟨_, _, rfl, HP.out.kept KF.out, ll_one (by decide) HZ2 (ml_one (m := ⟨1, 1, 64, [0, 0]⟩) (vs := []) (by decide) HZ1 (sl_new _ [0, 0] Z (by decide) (by decide) fun i hi => by have h2 : i < 2 := hi; obtain rfl | rfl : i = 0 ∨ i = 1 := (by omega); all_goals first | exact HZ0.c 0 _ rfl | exact HZ0.c 1 _ rfl))⟩)
        have HNo := hid (show ¬ Frm ⟨sa, sb, sd, s.P, [[⟨1, 1, 64, [0, 0]⟩]], lo, ra⟩ from no_q 0 0 _ _ rfl rfl nok_2)
        clear bX_0 bY_0 bO_0 bM_0 bN_0 bX_1 bY_1 bO_1 bM_1 bN_1 bX_2 bY_2 bO_2 bM_2 bN_2 bX_3 bY_3 bO_3 bM_3 bN_3 bX_4 bY_4 bO_4 bM_4 bN_4 bX_5 bY_5 bO_5 bM_5 bN_5 ks_1 ks_2 ks_3 ks_4 ks_5 hOne HNf
        go_wp2_with fail
        (try rw [hu1])
        (try rw [hu2])
        (try rw [hu3])
        (try rw [hu4])
        (try rw [hu5])
        go_at_call 10
        refine (HWr.out _ _ _ HSt.out (by rw [HEQ.out.2.2.2.1]; exact HSm.out.1) (by simp) HNo.out).mono ?_
        rintro e w8 ⟨k8, rfl⟩
        have KG := hid k8
        clear lx0 lx1 lx2 lx3 lx4 lx5 lx6 hu1 hu2 hu3 hu4 hu5
        obtain ⟨lx0, lx1, lx2, lx3, lx4, lx5, lx6⟩ : _ ∧ _ ∧ _ ∧ _ ∧ _ ∧ _ ∧ _ := ⟨(BXF.out.kept KG.out).c 0 _ rfl, (BXF.out.kept KG.out).c 1 _ rfl, (BXF.out.kept KG.out).c 2 _ rfl, (BXF.out.kept KG.out).c 3 _ rfl, (BXF.out.kept KG.out).c 4 _ rfl, (BXF.out.kept KG.out).c 5 _ rfl, (BXF.out.kept KG.out).c 6 _ rfl⟩
        clear k8
        go_wp2_with fail
        go_at_call 11
        refine (HCk.out _ _ _ (HSt.out.kept KG.out) (by rw [HEQ.out.2.2.2.1]; exact HSm.out.1) (by simp) HNo.out).mono ?_
        rintro e w9 ⟨k9, rfl⟩
        go_wp2_with fail
        go_ret
        exact ⟨rfl, K4.out.trans (KF.out.trans (KG.out.trans k9))⟩
      · skip
        have bX_0 := BX7.out
        have bY_0 := BY7.out
        have bO_0 := BO7.out
        have bM_0 := BM7.out
        have bN_0 := BN7.out
        have kk_0 := hid (Kept.kx (Kept.refl w7) (fun b => X ≤ b))
        have hz_0 := hZ7
        obtain ⟨u1, hu1⟩ : ∃ u1, w7.alloc (.cells #[.int .i64 9218868437227405312] 3) = u1 := ⟨_, rfl⟩
        have ks_1 : Kept w7 u1 := by rw [← hu1]; exact (Kept.refl _).alloc _ _
        have bX_1 := bX_0.kept ks_1
        have bY_1 := bY_0.kept ks_1
        have bO_1 := bO_0.kept ks_1
        have bM_1 := bM_0.kept ks_1
        have bN_1 := bN_0.kept ks_1
        have bZ0_1 : Bk u1 (Z) [.int .i64 9218868437227405312] := by
          have h := Bk.new w7 [.int .i64 9218868437227405312] 3
          rw [hz_0] at h
          rw [← hu1]
          exact h
        have kk_1 := hid (kk_0.out.trans (ks_1.kx _))
        have hz_1 : u1.heap.size = Z + 1 := by rw [← hu1, World.size_alloc, hz_0]
        have ls13 := bY_1.c 3 _ rfl
        have lf1 := bY_1.fz
        obtain ⟨u2, hu2⟩ : ∃ u2, (u1).setCell ⟨Y, 3, none⟩ (.slice (some ⟨Z, 0, none⟩) 1 1) = u2 := ⟨_, rfl⟩
        have ks_2 : KX (fun b => b = Y) u1 u2 := by rw [← hu2]; exact ((Grw.refl (Y) u1).setCell _ _).kx
        have bY_2 : Bk u2 (Y) [.int .i64 1, .int .i64 1, .int .i64 64, .slice (some ⟨Z, 0, none⟩) 1 1] := by rw [← hu2]; exact (bY_1.set 3 _)
        have bX_2 := bX_1.kx ks_2 (by omega)
        have bO_2 := bO_1.kx ks_2 (by omega)
        have bM_2 := bM_1.kx ks_2 (by omega)
        have bZ0_2 := bZ0_1.kx ks_2 (by omega)
        have bN_2 := bN_1.kx ks_2 (by omega)
        have kk_2 := hid (kk_1.out.trans (ks_2.mono fun b hb => by omega))
        have hz_2 : u2.heap.size = Z + 1 := by rw [← hu2]; simpa using hz_1
        obtain ⟨ly20, ly21, ly22, ly23⟩ : _ ∧ _ ∧ _ ∧ _ := ⟨bY_2.c 0 _ rfl, bY_2.c 1 _ rfl, bY_2.c 2 _ rfl, bY_2.c 3 _ rfl⟩
        obtain ⟨u3, hu3⟩ : ∃ u3, u2.alloc (.cells #[.int .i64 1, .int .i64 1, .int .i64 64, .slice (some ⟨Z, 0, none⟩) 1 1] 43) = u3 := ⟨_, rfl⟩
        have ks_3 : Kept u2 u3 := by rw [← hu3]; exact (Kept.refl _).alloc _ _
        have bX_3 := bX_2.kept ks_3
        have bY_3 := bY_2.kept ks_3
        have bO_3 := bO_2.kept ks_3
        have bM_3 := bM_2.kept ks_3
        have bZ0_3 := bZ0_2.kept ks_3
        have bN_3 := bN_2.kept ks_3
        have bZ1_3 : Bk u3 (Z + 1) [.int .i64 1, .int .i64 1, .int .i64 64, .slice (some ⟨Z, 0, none⟩) 1 1] := by
          have h := Bk.new u2 [.int .i64 1, .int .i64 1, .int .i64 64, .slice (some ⟨Z, 0, none⟩) 1 1] 43
          rw [hz_2] at h
          rw [← hu3]
          exact h
        have kk_3 := hid (kk_2.out.trans (ks_3.kx _))
        have hz_3 : u3.heap.size = Z + 1 + 1 := by rw [← hu3, World.size_alloc, hz_2]
        have ls33 := bX_3.c 3 _ rfl
        have lf3 := bX_3.fz
        obtain ⟨u4, hu4⟩ : ∃ u4, (u3).setCell ⟨X, 3, none⟩ (.slice (some ⟨Z + 1, 0, none⟩) 1 1) = u4 := ⟨_, rfl⟩
        have ks_4 : KX (fun b => b = X) u3 u4 := by rw [← hu4]; exact ((Grw.refl (X) u3).setCell _ _).kx
        have bX_4 : Bk u4 (X) [.int .i64 sa, .int .i64 sb, .int .i64 sd, .slice (some ⟨Z + 1, 0, none⟩) 1 1, .slice (some ⟨GQ, 0, none⟩) ql CQ, .int .i64 lo, .int .i64 ra] := by rw [← hu4]; exact (bX_3.set 3 _)
        have bY_4 := bY_3.kx ks_4 (by omega)
        have bO_4 := bO_3.kx ks_4 (by omega)
        have bM_4 := bM_3.kx ks_4 (by omega)
        have bZ0_4 := bZ0_3.kx ks_4 (by omega)
        have bZ1_4 := bZ1_3.kx ks_4 (by omega)
        have bN_4 := bN_3.kx ks_4 (by omega)
        have kk_4 := hid (kk_3.out.trans (ks_4.mono fun b hb => by omega))
        have hz_4 : u4.heap.size = Z + 1 + 1 := by rw [← hu4]; simpa using hz_3
        have KF := hid (kept_of_kx K7.out kk_4.out (fun b hb => by have := HX.out; omega))
        obtain ⟨lx0, lx1, lx2, lx3, lx4, lx5, lx6⟩ : _ ∧ _ ∧ _ ∧ _ ∧ _ ∧ _ ∧ _ := ⟨bX_4.c 0 _ rfl, bX_4.c 1 _ rfl, bX_4.c 2 _ rfl, bX_4.c 3 _ rfl, bX_4.c 4 _ rfl, bX_4.c 5 _ rfl, bX_4.c 6 _ rfl⟩
        have BXF := hid bX_4
        have hOne : Sl u4 (.slice (some ⟨X + 1, 0, none⟩) 1 1) [0] := sl_new _ [0] (X + 1) (by decide) (by decide) fun i hi => by have h2 : i < 1 := hi; obtain rfl : i = 0 := (by omega); exact bO_4.c 0 _ rfl
        have HNf := bN_4
        have HZ0 := bZ0_4
        have HZ1 := bZ1_4
        have HSt := hid (show StI u4 (.agg #[.int .i64 sa, .int .i64 sb, .int .i64 sd, .slice (some ⟨Z + 1, 0, none⟩) 1 1, .slice (some ⟨GQ, 0, none⟩) ql CQ, .int .i64 lo, .int .i64 ra]) ⟨sa, sb, sd, [⟨1, 1, 64, [9218868437227405312]⟩], s.Q, lo, ra⟩ from ⟨_, _, rfl, ml_one (m := ⟨1, 1, 64, [9218868437227405312]⟩) (vs := []) (by decide) HZ1 (sl_new _ [9218868437227405312] Z (by decide) (by decide) fun i hi => by have h2 : i < 1 := hi; obtain rfl : i = 0 := (by omega); exact HZ0.c 0 _ rfl), HQ.out.kept KF.out⟩)
        have HNo := hid (show ¬ Frm ⟨sa, sb, sd, [⟨1, 1, 64, [9218868437227405312]⟩], s.Q, lo, ra⟩ from no_p 0 _ rfl nok_inf)
        clear bX_0 bY_0 bO_0 bM_0 bN_0 bX_1 bY_1 bO_1 bM_1 bN_1 bX_2 bY_2 bO_2 bM_2 bN_2 bX_3 bY_3 bO_3 bM_3 bN_3 bX_4 bY_4 bO_4 bM_4 bN_4 ks_1 ks_2 ks_3 ks_4 hOne HNf
        go_wp2_with fail
        (try rw [hu1])
        (try rw [hu2])
        (try rw [hu3])
        (try rw [hu4])
        go_at_call 10
        refine (HWr.out _ _ _ HSt.out (by simp) (by rw [HEQ.out.2.2.2.2.1]; exact HSm.out.2) HNo.out).mono ?_
        rintro e w8 ⟨k8, rfl⟩
        have KG := hid k8
        clear lx0 lx1 lx2 lx3 lx4 lx5 lx6 hu1 hu2 hu3 hu4
        obtain ⟨lx0, lx1, lx2, lx3, lx4, lx5, lx6⟩ : _ ∧ _ ∧ _ ∧ _ ∧ _ ∧ _ ∧ _ := ⟨(BXF.out.kept KG.out).c 0 _ rfl, (BXF.out.kept KG.out).c 1 _ rfl, (BXF.out.kept KG.out).c 2 _ rfl, (BXF.out.kept KG.out).c 3 _ rfl, (BXF.out.kept KG.out).c 4 _ rfl, (BXF.out.kept KG.out).c 5 _ rfl, (BXF.out.kept KG.out).c 6 _ rfl⟩
        clear k8
        go_wp2_with fail
        go_at_call 11
        refine (HCk.out _ _ _ (HSt.out.kept KG.out) (by simp) (by rw [HEQ.out.2.2.2.2.1]; exact HSm.out.2) HNo.out).mono ?_
        rintro e w9 ⟨k9, rfl⟩
        go_wp2_with fail
        go_ret
        exact ⟨rfl, K4.out.trans (KF.out.trans (KG.out.trans k9))⟩
      · skip
        have bX_0 := BX7.out
        have bY_0 := BY7.out
        have bO_0 := BO7.out
        have bM_0 := BM7.out
        have bN_0 := BN7.out
        have kk_0 := hid (Kept.kx (Kept.refl w7) (fun b => X ≤ b))
        have hz_0 := hZ7
        obtain ⟨u1, hu1⟩ : ∃ u1, w7.alloc (.cells #[.int .i64 (-1)] 3) = u1 := ⟨_, rfl⟩
        have ks_1 : Kept w7 u1 := by rw [← hu1]; exact (Kept.refl _).alloc _ _
        have bX_1 := bX_0.kept ks_1
        have bY_1 := bY_0.kept ks_1
        have bO_1 := bO_0.kept ks_1
        have bM_1 := bM_0.kept ks_1
        have bN_1 := bN_0.kept ks_1
        have bZ0_1 : Bk u1 (Z) [.int .i64 (-1)] := by
          have h := Bk.new w7 [.int .i64 (-1)] 3
          rw [hz_0] at h
          rw [← hu1]
          exact h
        have kk_1 := hid (kk_0.out.trans (ks_1.kx _))
        have hz_1 : u1.heap.size = Z + 1 := by rw [← hu1, World.size_alloc, hz_0]
        have ls10 := bY_1.c 0 _ rfl
        have ls11 := bY_1.c 1 _ rfl
        have ls12 := bY_1.c 2 _ rfl
        have ls13 := bY_1.c 3 _ rfl
        have lf1 := bY_1.fz
        obtain ⟨u2, hu2⟩ : ∃ u2, ((((u1).setCell ⟨Y, 0, none⟩ (.int .i64 1)).setCell ⟨Y, 1, none⟩ (.int .i64 1)).setCell ⟨Y, 2, none⟩ (.int .i64 32)).setCell ⟨Y, 3, none⟩ (.slice (some ⟨Z, 0, none⟩) 1 1) = u2 := ⟨_, rfl⟩
        have ks_2 : KX (fun b => b = Y) u1 u2 := by rw [← hu2]; exact (((((Grw.refl (Y) u1).setCell _ _).setCell _ _).setCell _ _).setCell _ _).kx
        have bY_2 : Bk u2 (Y) [.int .i64 1, .int .i64 1, .int .i64 32, .slice (some ⟨Z, 0, none⟩) 1 1] := by rw [← hu2]; exact ((((bY_1.set 0 _).set 1 _).set 2 _).set 3 _)
        have bX_2 := bX_1.kx ks_2 (by omega)
        have bO_2 := bO_1.kx ks_2 (by omega)
        have bM_2 := bM_1.kx ks_2 (by omega)
        have bZ0_2 := bZ0_1.kx ks_2 (by omega)
        have bN_2 := bN_1.kx ks_2 (by omega)
        have kk_2 := hid (kk_1.out.trans (ks_2.mono fun b hb => by omega))
        have hz_2 : u2.heap.size = Z + 1 := by rw [← hu2]; simpa using hz_1
        obtain ⟨lo20, lo21, lo22, lo23⟩ : _ ∧ _ ∧ _ ∧ _ := ⟨bM_2.c 0 _ rfl, bM_2.c 1 _ rfl, bM_2.c 2 _ rfl, bM_2.c 3 _ rfl⟩
        obtain ⟨ly20, ly21, ly22, ly23⟩ : _ ∧ _ ∧ _ ∧ _ := ⟨bY_2.c 0 _ rfl, bY_2.c 1 _ rfl, bY_2.c 2 _ rfl, bY_2.c 3 _ rfl⟩
        obtain ⟨u3, hu3⟩ : ∃ u3, u2.alloc (.cells #[.int .i64 1, .int .i64 1, .int .i64 64, .slice (some ⟨X + 1, 0, none⟩) 1 1, .int .i64 1, .int .i64 1, .int .i64 32, .slice (some ⟨Z, 0, none⟩) 1 1] 43) = u3 := ⟨_, rfl⟩
        have ks_3 : Kept u2 u3 := by rw [← hu3]; exact (Kept.refl _).alloc _ _
        have bX_3 := bX_2.kept ks_3
        have bY_3 := bY_2.kept ks_3
        have bO_3 := bO_2.kept ks_3
        have bM_3 := bM_2.kept ks_3
        have bZ0_3 := bZ0_2.kept ks_3
        have bN_3 := bN_2.kept ks_3
        have bZ1_3 : Bk u3 (Z + 1) [.int .i64 1, .int .i64 1, .int .i64 64, .slice (some ⟨X + 1, 0, none⟩) 1 1, .int .i64 1, .int .i64 1, .int .i64 32, .slice (some ⟨Z, 0, none⟩) 1 1] := by
          have h := Bk.new u2 [.int .i64 1, .int .i64 1, .int .i64 64, .slice (some ⟨X + 1, 0, none⟩) 1 1, .int .i64 1, .int .i64 1, .int .i64 32, .slice (some ⟨Z, 0, none⟩) 1 1] 43
          rw [hz_2] at h
          rw [← hu3]
          exact h
        have kk_3 := hid (kk_2.out.trans (ks_3.kx _))
        have hz_3 : u3.heap.size = Z + 1 + 1 := by rw [← hu3, World.size_alloc, hz_2]
        obtain ⟨u4, hu4⟩ : ∃ u4, u3.alloc (.cells #[.slice (some ⟨Z + 1, 0, none⟩) 2 2] 22) = u4 := ⟨_, rfl⟩
        have ks_4 : Kept u3 u4 := by rw [← hu4]; exact (Kept.refl _).alloc _ _
        have bX_4 := bX_3.kept ks_4
        have bY_4 := bY_3.kept ks_4
        have bO_4 := bO_3.kept ks_4
        have bM_4 := bM_3.kept ks_4
        have bZ0_4 := bZ0_3.kept ks_4
        have bZ1_4 := bZ1_3.kept ks_4
        have bN_4 := bN_3.kept ks_4
        have bZ2_4 : Bk u4 (Z + 1 + 1) [.slice (some ⟨Z + 1, 0, none⟩) 2 2] := by
          have h := Bk.new u3 [.slice (some ⟨Z + 1, 0, none⟩) 2 2] 22
          rw [hz_3] at h
          rw [← hu4]
          exact h
        have kk_4 := hid (kk_3.out.trans (ks_4.kx _))
        have hz_4 : u4.heap.size = Z + 1 + 1 + 1 := by rw [← hu4, World.size_alloc, hz_3]
        have ls44 := bX_4.c 4 _ rfl
        have lf4 := bX_4.fz
        obtain ⟨u5, hu5⟩ : ∃ u5, (u4).setCell ⟨X, 4, none⟩ (.slice (some ⟨Z + 1 + 1, 0, none⟩) 1 1) = u5 := ⟨_, rfl⟩
        have ks_5 : KX (fun b => b = X) u4 u5 := by rw [← hu5]; exact ((Grw.refl (X) u4).setCell _ _).kx
        have bX_5 : Bk u5 (X) [.int .i64 sa, .int .i64 sb, .int .i64 sd, .slice (some ⟨GP, 0, none⟩) pl CP, .slice (some ⟨Z + 1 + 1, 0, none⟩) 1 1, .int .i64 lo, .int .i64 ra] := by rw [← hu5]; exact (bX_4.set 4 _)
        have bY_5 := bY_4.kx ks_5 (by omega)
        have bO_5 := bO_4.kx ks_5 (by omega)
        have bM_5 := bM_4.kx ks_5 (by omega)
        have bZ0_5 := bZ0_4.kx ks_5 (by omega)
        have bZ1_5 := bZ1_4.kx ks_5 (by omega)
        have bZ2_5 := bZ2_4.kx ks_5 (by omega)
        have bN_5 := bN_4.kx ks_5 (by omega)
        have kk_5 := hid (kk_4.out.trans (ks_5.mono fun b hb => by omega))
        have hz_5 : u5.heap.size = Z + 1 + 1 + 1 := by rw [← hu5]; simpa using hz_4
        have KF := hid (kept_of_kx K7.out kk_5.out (fun b hb => by have := HX.out; omega))
        obtain ⟨lx0, lx1, lx2, lx3, lx4, lx5, lx6⟩ : _ ∧ _ ∧ _ ∧ _ ∧ _ ∧ _ ∧ _ := ⟨bX_5.c 0 _ rfl, bX_5.c 1 _ rfl, bX_5.c 2 _ rfl, bX_5.c 3 _ rfl, bX_5.c 4 _ rfl, bX_5.c 5 _ rfl, bX_5.c 6 _ rfl⟩
        have BXF := hid bX_5
        have hOne : Sl u5 (.slice (some ⟨X + 1, 0, none⟩) 1 1) [0] := sl_new _ [0] (X + 1) (by decide) (by decide) fun i hi => by have h2 : i < 1 := hi; obtain rfl : i = 0 := (by omega); exact bO_5.c 0 _ rfl
        have HNf := bN_5
        have HZ0 := bZ0_5
        have HZ1 := bZ1_5
        have HZ2 := bZ2_5
        have HSt := hid (show StI u5 (.agg #[.int .i64 sa, .int .i64 sb, .int .i64 sd, .slice (some ⟨GP, 0, none⟩) pl CP, .slice (some ⟨Z + 1 + 1, 0, none⟩) 1 1, .int .i64 lo, .int .i64 ra]) ⟨sa, sb, sd, s.P, [[oneM, ⟨1, 1, 32, [-1]⟩]], lo, ra⟩ from ⟨_, _, rfl, HP.out.kept KF.out, ll_one (by decide) HZ2 (ml_two (m := oneM) (k := ⟨1, 1, 32, [-1]⟩) (by decide) HZ1 hOne (sl_new _ [-1] Z (by decide) (by decide) fun i hi => by have h2 : i < 1 := hi; obtain rfl : i = 0 := (by omega); exact HZ0.c 0 _ rfl))⟩)
        have HNo := hid (show ¬ Frm ⟨sa, sb, sd, s.P, [[oneM, ⟨1, 1, 32, [-1]⟩]], lo, ra⟩ from no_q 0 1 _ _ rfl rfl nok_32)
        clear bX_0 bY_0 bO_0 bM_0 bN_0 bX_1 bY_1 bO_1 bM_1 bN_1 bX_2 bY_2 bO_2 bM_2 bN_2 bX_3 bY_3 bO_3 bM_3 bN_3 bX_4 bY_4 bO_4 bM_4 bN_4 bX_5 bY_5 bO_5 bM_5 bN_5 ks_1 ks_2 ks_3 ks_4 ks_5 hOne HNf
        go_wp2_with fail
        (try rw [hu1])
        (try rw [hu2])
        (try rw [hu3])
        (try rw [hu4])
        (try rw [hu5])
        go_at_call 10
        refine (HWr.out _ _ _ HSt.out (by rw [HEQ.out.2.2.2.1]; exact HSm.out.1) (by simp) HNo.out).mono ?_
        rintro e w8 ⟨k8, rfl⟩
        have KG := hid k8
        clear lx0 lx1 lx2 lx3 lx4 lx5 lx6 hu1 hu2 hu3 hu4 hu5
        obtain ⟨lx0, lx1, lx2, lx3, lx4, lx5, lx6⟩ : _ ∧ _ ∧ _ ∧ _ ∧ _ ∧ _ ∧ _ := ⟨(BXF.out.kept KG.out).c 0 _ rfl, (BXF.out.kept KG.out).c 1 _ rfl, (BXF.out.kept KG.out).c 2 _ rfl, (BXF.out.kept KG.out).c 3 _ rfl, (BXF.out.kept KG.out).c 4 _ rfl, (BXF.out.kept KG.out).c 5 _ rfl, (BXF.out.kept KG.out).c 6 _ rfl⟩
        clear k8
        go_wp2_with fail
        go_at_call 11
        refine (HCk.out _ _ _ (HSt.out.kept KG.out) (by rw [HEQ.out.2.2.2.1]; exact HSm.out.1) (by simp) HNo.out).mono ?_
        rintro e w9 ⟨k9, rfl⟩
        go_wp2_with fail
        go_ret
        exact ⟨rfl, K4.out.trans (KF.out.trans (KG.out.trans k9))⟩
      · skip
        have bX_0 := BX7.out
        have bY_0 := BY7.out
        have bO_0 := BO7.out
        have bM_0 := BM7.out
        have bN_0 := BN7.out
        have kk_0 := hid (Kept.kx (Kept.refl w7) (fun b => X ≤ b))
        have hz_0 := hZ7
        obtain ⟨Cz, hCz⟩ : ∃ Cz, madeCells #[.int .i64 0] 4160 = Cz := ⟨_, rfl⟩
        have hmk2 : ∀ u : World, (Instr.makeSlice 41 (.int .i64 4160) (.int .i64 4160)).run Try.prog u = .ok (.slice (some ⟨u.heap.size, 0, none⟩) 4160 4160) (u.alloc (.cells Cz 3)) := fun u => by rw [← hCz]; exact tmake_run 4160 4160 (by decide) (by decide) u
        obtain ⟨u1, hu1⟩ : ∃ u1, w7.alloc (.cells Cz 3) = u1 := ⟨_, rfl⟩
        have ks_1 : Kept w7 u1 := by rw [← hu1]; exact (Kept.refl _).alloc _ _
        have bX_1 := bX_0.kept ks_1
        have bY_1 := bY_0.kept ks_1
        have bO_1 := bO_0.kept ks_1
        have bM_1 := bM_0.kept ks_1
        have bN_1 := bN_0.kept ks_1
        have bI_1 : Own u1 Z 4160 (List.replicate 4160 0) := by
          have h := town_made 4160 4160 (by decide) (by decide) w7
          rw [hz_0, hCz] at h
          rw [← hu1]
          exact h
        have kk_1 := hid (kk_0.out.trans (ks_1.kx _))
        have hz_1 : u1.heap.size = Z + 1 := by rw [← hu1, World.size_alloc, hz_0]
        have ls10 := bY_1.c 0 _ rfl
        have ls11 := bY_1.c 1 _ rfl
        have ls12 := bY_1.c 2 _ rfl
        have ls13 := bY_1.c 3 _ rfl
        have lf1 := bY_1.fz
        obtain ⟨u2, hu2⟩ : ∃ u2, ((((u1).setCell ⟨Y, 0, none⟩ (.int .i64 64)).setCell ⟨Y, 1, none⟩ (.int .i64 65)).setCell ⟨Y, 2, none⟩ (.int .i64 64)).setCell ⟨Y, 3, none⟩ (.slice (some ⟨Z, 0, none⟩) 4160 4160) = u2 := ⟨_, rfl⟩
        have ks_2 : KX (fun b => b = Y) u1 u2 := by rw [← hu2]; exact (((((Grw.refl (Y) u1).setCell _ _).setCell _ _).setCell _ _).setCell _ _).kx
        have bY_2 : Bk u2 (Y) [.int .i64 64, .int .i64 65, .int .i64 64, .slice (some ⟨Z, 0, none⟩) 4160 4160] := by rw [← hu2]; exact ((((bY_1.set 0 _).set 1 _).set 2 _).set 3 _)
        have bX_2 := bX_1.kx ks_2 (by omega)
        have bO_2 := bO_1.kx ks_2 (by omega)
        have bM_2 := bM_1.kx ks_2 (by omega)
        have bN_2 := bN_1.kx ks_2 (by omega)
        have bI_2 : Own u2 Z 4160 (List.replicate 4160 0) := by
          obtain ⟨cur, h1, r⟩ := bI_1
          exact ⟨cur, (ks_2.block _ (lt_of_block h1) (by omega)).trans h1, r⟩
        have kk_2 := hid (kk_1.out.trans (ks_2.mono fun b hb => by omega))
        have hz_2 : u2.heap.size = Z + 1 := by rw [← hu2]; simpa using hz_1
        obtain ⟨ly20, ly21, ly22, ly23⟩ : _ ∧ _ ∧ _ ∧ _ := ⟨bY_2.c 0 _ rfl, bY_2.c 1 _ rfl, bY_2.c 2 _ rfl, bY_2.c 3 _ rfl⟩
        obtain ⟨u3, hu3⟩ : ∃ u3, u2.alloc (.cells #[.int .i64 64, .int .i64 65, .int .i64 64, .slice (some ⟨Z, 0, none⟩) 4160 4160] 43) = u3 := ⟨_, rfl⟩
        have ks_3 : Kept u2 u3 := by rw [← hu3]; exact (Kept.refl _).alloc _ _
        have bX_3 := bX_2.kept ks_3
        have bY_3 := bY_2.kept ks_3
        have bO_3 := bO_2.kept ks_3
        have bM_3 := bM_2.kept ks_3
        have bN_3 := bN_2.kept ks_3
        have bI_3 := bI_2.kept ks_3
        have bZ1_3 : Bk u3 (Z + 1) [.int .i64 64, .int .i64 65, .int .i64 64, .slice (some ⟨Z, 0, none⟩) 4160 4160] := by
          have h := Bk.new u2 [.int .i64 64, .int .i64 65, .int .i64 64, .slice (some ⟨Z, 0, none⟩) 4160 4160] 43
          rw [hz_2] at h
          rw [← hu3]
          exact h
        have kk_3 := hid (kk_2.out.trans (ks_3.kx _))
        have hz_3 : u3.heap.size = Z + 1 + 1 := by rw [← hu3, World.size_alloc, hz_2]
        have ls33 := bX_3.c 3 _ rfl
        have lf3 := bX_3.fz
        obtain ⟨u4, hu4⟩ : ∃ u4, (u3).setCell ⟨X, 3, none⟩ (.slice (some ⟨Z + 1, 0, none⟩) 1 1) = u4 := ⟨_, rfl⟩
        have ks_4 : KX (fun b => b = X) u3 u4 := by rw [← hu4]; exact ((Grw.refl (X) u3).setCell _ _).kx
        have bX_4 : Bk u4 (X) [.int .i64 sa, .int .i64 sb, .int .i64 sd, .slice (some ⟨Z + 1, 0, none⟩) 1 1, .slice (some ⟨GQ, 0, none⟩) ql CQ, .int .i64 lo, .int .i64 ra] := by rw [← hu4]; exact (bX_3.set 3 _)
        have bY_4 := bY_3.kx ks_4 (by omega)
        have bO_4 := bO_3.kx ks_4 (by omega)
        have bM_4 := bM_3.kx ks_4 (by omega)
        have bZ1_4 := bZ1_3.kx ks_4 (by omega)
        have bN_4 := bN_3.kx ks_4 (by omega)
        have bI_4 : Own u4 Z 4160 (List.replicate 4160 0) := by
          obtain ⟨cur, h1, r⟩ := bI_3
          exact ⟨cur, (ks_4.block _ (lt_of_block h1) (by omega)).trans h1, r⟩
        have kk_4 := hid (kk_3.out.trans (ks_4.mono fun b hb => by omega))
        have hz_4 : u4.heap.size = Z + 1 + 1 := by rw [← hu4]; simpa using hz_3
        have KF := hid (kept_of_kx K7.out kk_4.out (fun b hb => by have := HX.out; omega))
        obtain ⟨lx0, lx1, lx2, lx3, lx4, lx5, lx6⟩ : _ ∧ _ ∧ _ ∧ _ ∧ _ ∧ _ ∧ _ := ⟨bX_4.c 0 _ rfl, bX_4.c 1 _ rfl, bX_4.c 2 _ rfl, bX_4.c 3 _ rfl, bX_4.c 4 _ rfl, bX_4.c 5 _ rfl, bX_4.c 6 _ rfl⟩
        have BXF := hid bX_4
        have hOne : Sl u4 (.slice (some ⟨X + 1, 0, none⟩) 1 1) [0] := sl_new _ [0] (X + 1) (by decide) (by decide) fun i hi => by have h2 : i < 1 := hi; obtain rfl : i = 0 := (by omega); exact bO_4.c 0 _ rfl
        have HNf := bN_4
        have HZ1 := bZ1_4
        have HZs : Sl u4 (.slice (some ⟨Z, 0, none⟩) 4160 4160) (List.replicate 4160 0) := by
          have h := bI_4.sl
          rw [List.length_replicate] at h
          exact h
        have HSt := hid (show StI u4 (.agg #[.int .i64 sa, .int .i64 sb, .int .i64 sd, .slice (some ⟨Z + 1, 0, none⟩) 1 1, .slice (some ⟨GQ, 0, none⟩) ql CQ, .int .i64 lo, .int .i64 ra]) ⟨sa, sb, sd, [⟨64, 65, 64, List.replicate 4160 0⟩], s.Q, lo, ra⟩ from ⟨_, _, rfl, ml_one (m := ⟨64, 65, 64, List.replicate 4160 0⟩) (vs := []) (by decide) (by rw [show (⟨64, 65, 64, List.replicate 4160 0⟩ : Mat).L.length = 4160 from List.length_replicate]; exact HZ1) (by rw [show (⟨64, 65, 64, List.replicate 4160 0⟩ : Mat).L.length = 4160 from List.length_replicate]; exact HZs), HQ.out.kept KF.out⟩)
        have HNo := hid (show ¬ Frm ⟨sa, sb, sd, [⟨64, 65, 64, List.replicate 4160 0⟩], s.Q, lo, ra⟩ from no_p 0 _ rfl (nok_many _))
        clear bX_0 bY_0 bO_0 bM_0 bN_0 bX_1 bY_1 bO_1 bM_1 bN_1 bX_2 bY_2 bO_2 bM_2 bN_2 bX_3 bY_3 bO_3 bM_3 bN_3 bX_4 bY_4 bO_4 bM_4 bN_4 ks_1 ks_2 ks_3 ks_4 hOne HNf
        go_wp2_with fail
        (try rw [hu1])
        (try rw [hu2])
        (try rw [hu3])
        (try rw [hu4])
        go_at_call 10
        refine (HWr.out _ _ _ HSt.out (by simp) (by rw [HEQ.out.2.2.2.2.1]; exact HSm.out.2) HNo.out).mono ?_
        rintro e w8 ⟨k8, rfl⟩
        have KG := hid k8
        clear lx0 lx1 lx2 lx3 lx4 lx5 lx6 hu1 hu2 hu3 hu4
        obtain ⟨lx0, lx1, lx2, lx3, lx4, lx5, lx6⟩ : _ ∧ _ ∧ _ ∧ _ ∧ _ ∧ _ ∧ _ := ⟨(BXF.out.kept KG.out).c 0 _ rfl, (BXF.out.kept KG.out).c 1 _ rfl, (BXF.out.kept KG.out).c 2 _ rfl, (BXF.out.kept KG.out).c 3 _ rfl, (BXF.out.kept KG.out).c 4 _ rfl, (BXF.out.kept KG.out).c 5 _ rfl, (BXF.out.kept KG.out).c 6 _ rfl⟩
        clear k8
        go_wp2_with fail
        go_at_call 11
        refine (HCk.out _ _ _ (HSt.out.kept KG.out) (by simp) (by rw [HEQ.out.2.2.2.2.1]; exact HSm.out.2) HNo.out).mono ?_
        rintro e w9 ⟨k9, rfl⟩
        go_wp2_with fail
        go_ret
        exact ⟨rfl, K4.out.trans (KF.out.trans (KG.out.trans k9))⟩
      · skip
        have bX_0 := BX7.out
        have bY_0 := BY7.out
        have bO_0 := BO7.out
        have bM_0 := BM7.out
        have bN_0 := BN7.out
        have kk_0 := hid (Kept.kx (Kept.refl w7) (fun b => X ≤ b))
        have hz_0 := hZ7
        obtain ⟨u1, hu1⟩ : ∃ u1, w7.alloc (.cells #[.int .i64 0] 3) = u1 := ⟨_, rfl⟩
        have ks_1 : Kept w7 u1 := by rw [← hu1]; exact (Kept.refl _).alloc _ _
        have bX_1 := bX_0.kept ks_1
        have bY_1 := bY_0.kept ks_1
        have bO_1 := bO_0.kept ks_1
        have bM_1 := bM_0.kept ks_1
        have bN_1 := bN_0.kept ks_1
        have bZ0_1 : Bk u1 (Z) [.int .i64 0] := by
          have h := Bk.new w7 [.int .i64 0] 3
          rw [hz_0] at h
          rw [← hu1]
          exact h
        have kk_1 := hid (kk_0.out.trans (ks_1.kx _))
        have hz_1 : u1.heap.size = Z + 1 := by rw [← hu1, World.size_alloc, hz_0]
        have ls10 := bY_1.c 0 _ rfl
        have ls11 := bY_1.c 1 _ rfl
        have ls12 := bY_1.c 2 _ rfl
        have ls13 := bY_1.c 3 _ rfl
        have lf1 := bY_1.fz
        obtain ⟨u2, hu2⟩ : ∃ u2, ((((u1).setCell ⟨Y, 0, none⟩ (.int .i64 (-1))).setCell ⟨Y, 1, none⟩ (.int .i64 (-1))).setCell ⟨Y, 2, none⟩ (.int .i64 64)).setCell ⟨Y, 3, none⟩ (.slice (some ⟨Z, 0, none⟩) 1 1) = u2 := ⟨_, rfl⟩
        have ks_2 : KX (fun b => b = Y) u1 u2 := by rw [← hu2]; exact (((((Grw.refl (Y) u1).setCell _ _).setCell _ _).setCell _ _).setCell _ _).kx
        have bY_2 : Bk u2 (Y) [.int .i64 (-1), .int .i64 (-1), .int .i64 64, .slice (some ⟨Z, 0, none⟩) 1 1] := by rw [← hu2]; exact ((((bY_1.set 0 _).set 1 _).set 2 _).set 3 _)
        have bX_2 := bX_1.kx ks_2 (by omega)
        have bO_2 := bO_1.kx ks_2 (by omega)
        have bM_2 := bM_1.kx ks_2 (by omega)
        have bZ0_2 := bZ0_1.kx ks_2 (by omega)
        have bN_2 := bN_1.kx ks_2 (by omega)
        have kk_2 := hid (kk_1.out.trans (ks_2.mono fun b hb => by omega))
        have hz_2 : u2.heap.size = Z + 1 := by rw [← hu2]; simpa using hz_1
        obtain ⟨ly20, ly21, ly22, ly23⟩ : _ ∧ _ ∧ _ ∧ _ := ⟨bY_2.c 0 _ rfl, bY_2.c 1 _ rfl, bY_2.c 2 _ rfl, bY_2.c 3 _ rfl⟩
        obtain ⟨u3, hu3⟩ : ∃ u3, u2.alloc (.cells #[.int .i64 (-1), .int .i64 (-1), .int .i64 64, .slice (some ⟨Z, 0, none⟩) 1 1] 43) = u3 := ⟨_, rfl⟩
        have ks_3 : Kept u2 u3 := by rw [← hu3]; exact (Kept.refl _).alloc _ _
        have bX_3 := bX_2.kept ks_3
        have bY_3 := bY_2.kept ks_3
        have bO_3 := bO_2.kept ks_3
        have bM_3 := bM_2.kept ks_3
        have bZ0_3 := bZ0_2.kept ks_3
        have bN_3 := bN_2.kept ks_3
        have bZ1_3 : Bk u3 (Z + 1) [.int .i64 (-1), .int .i64 (-1), .int .i64 64, .slice (some ⟨Z, 0, none⟩) 1 1] := by
          have h := Bk.new u2 [.int .i64 (-1), .int .i64 (-1), .int .i64 64, .slice (some ⟨Z, 0, none⟩) 1 1] 43
          rw [hz_2] at h
          rw [← hu3]
          exact h
        have kk_3 := hid (kk_2.out.trans (ks_3.kx _))
        have hz_3 : u3.heap.size = Z + 1 + 1 := by rw [← hu3, World.size_alloc, hz_2]
        have ls33 := bX_3.c 3 _ rfl
        have lf3 := bX_3.fz
        obtain ⟨u4, hu4⟩ : ∃ u4, (u3).setCell ⟨X, 3, none⟩ (.slice (some ⟨Z + 1, 0, none⟩) 1 1) = u4 := ⟨_, rfl⟩
        have ks_4 : KX (fun b => b = X) u3 u4 := by rw [← hu4]; exact ((Grw.refl (X) u3).setCell _ _).kx
        have bX_4 : Bk u4 (X) [.int .i64 sa, .int .i64 sb, .int .i64 sd, .slice (some ⟨Z + 1, 0, none⟩) 1 1, .slice (some ⟨GQ, 0, none⟩) ql CQ, .int .i64 lo, .int .i64 ra] := by rw [← hu4]; exact (bX_3.set 3 _)
        have bY_4 := bY_3.kx ks_4 (by omega)
        have bO_4 := bO_3.kx ks_4 (by omega)
        have bM_4 := bM_3.kx ks_4 (by omega)
        have bZ0_4 := bZ0_3.kx ks_4 (by omega)
        have bZ1_4 := bZ1_3.kx ks_4 (by omega)
        have bN_4 := bN_3.kx ks_4 (by omega)
        have kk_4 := hid (kk_3.out.trans (ks_4.mono fun b hb => by omega))
        have hz_4 : u4.heap.size = Z + 1 + 1 := by rw [← hu4]; simpa using hz_3
        have KF := hid (kept_of_kx K7.out kk_4.out (fun b hb => by have := HX.out; omega))
        obtain ⟨lx0, lx1, lx2, lx3, lx4, lx5, lx6⟩ : _ ∧ _ ∧ _ ∧ _ ∧ _ ∧ _ ∧ _ := ⟨bX_4.c 0 _ rfl, bX_4.c 1 _ rfl, bX_4.c 2 _ rfl, bX_4.c 3 _ rfl, bX_4.c 4 _ rfl, bX_4.c 5 _ rfl, bX_4.c 6 _ rfl⟩
        have BXF := hid bX_4
        have hOne : Sl u4 (.slice (some ⟨X + 1, 0, none⟩) 1 1) [0] := sl_new _ [0] (X + 1) (by decide) (by decide) fun i hi => by have h2 : i < 1 := hi; obtain rfl : i = 0 := (by omega); exact bO_4.c 0 _ rfl
        have HNf := bN_4
        have HZ0 := bZ0_4
        have HZ1 := bZ1_4
        have HSt := hid (show StI u4 (.agg #[.int .i64 sa, .int .i64 sb, .int .i64 sd, .slice (some ⟨Z + 1, 0, none⟩) 1 1, .slice (some ⟨GQ, 0, none⟩) ql CQ, .int .i64 lo, .int .i64 ra]) ⟨sa, sb, sd, [⟨-1, -1, 64, [0]⟩], s.Q, lo, ra⟩ from ⟨_, _, rfl, ml_one (m := ⟨-1, -1, 64, [0]⟩) (vs := []) (by decide) HZ1 (sl_new _ [0] Z (by decide) (by decide) fun i hi => by have h2 : i < 1 := hi; obtain rfl : i = 0 := (by omega); exact HZ0.c 0 _ rfl), HQ.out.kept KF.out⟩)
        have HNo := hid (show ¬ Frm ⟨sa, sb, sd, [⟨-1, -1, 64, [0]⟩], s.Q, lo, ra⟩ from no_p 0 _ rfl nok_neg)
        clear bX_0 bY_0 bO_0 bM_0 bN_0 bX_1 bY_1 bO_1 bM_1 bN_1 bX_2 bY_2 bO_2 bM_2 bN_2 bX_3 bY_3 bO_3 bM_3 bN_3 bX_4 bY_4 bO_4 bM_4 bN_4 ks_1 ks_2 ks_3 ks_4 hOne HNf
        go_wp2_with fail
        (try rw [hu1])
        (try rw [hu2])
        (try rw [hu3])
        (try rw [hu4])
        go_at_call 10
        refine (HWr.out _ _ _ HSt.out (by simp) (by rw [HEQ.out.2.2.2.2.1]; exact HSm.out.2) HNo.out).mono ?_
        rintro e w8 ⟨k8, rfl⟩
        have KG := hid k8
        clear lx0 lx1 lx2 lx3 lx4 lx5 lx6 hu1 hu2 hu3 hu4
        obtain ⟨lx0, lx1, lx2, lx3, lx4, lx5, lx6⟩ : _ ∧ _ ∧ _ ∧ _ ∧ _ ∧ _ ∧ _ := ⟨(BXF.out.kept KG.out).c 0 _ rfl, (BXF.out.kept KG.out).c 1 _ rfl, (BXF.out.kept KG.out).c 2 _ rfl, (BXF.out.kept KG.out).c 3 _ rfl, (BXF.out.kept KG.out).c 4 _ rfl, (BXF.out.kept KG.out).c 5 _ rfl, (BXF.out.kept KG.out).c 6 _ rfl⟩
        clear k8
        go_wp2_with fail
        go_at_call 11
        refine (HCk.out _ _ _ (HSt.out.kept KG.out) (by simp) (by rw [HEQ.out.2.2.2.2.1]; exact HSm.out.2) HNo.out).mono ?_
        rintro e w9 ⟨k9, rfl⟩
        go_wp2_with fail
        go_ret
        exact ⟨rfl, K4.out.trans (KF.out.trans (KG.out.trans k9))⟩
      · skip
        have bX_0 := BX7.out
        have bY_0 := BY7.out
        have bO_0 := BO7.out
        have bM_0 := BM7.out
        have bN_0 := BN7.out
        have kk_0 := hid (Kept.kx (Kept.refl w7) (fun b => X ≤ b))
        have hz_0 := hZ7
        have ls00 := bY_0.c 0 _ rfl
        have ls01 := bY_0.c 1 _ rfl
        have ls02 := bY_0.c 2 _ rfl
        have ls03 := bY_0.c 3 _ rfl
        have lf0 := bY_0.fz
        obtain ⟨u1, hu1⟩ : ∃ u1, ((((w7).setCell ⟨Y, 0, none⟩ (.int .i64 4294967296)).setCell ⟨Y, 1, none⟩ (.int .i64 4294967296)).setCell ⟨Y, 2, none⟩ (.int .i64 64)).setCell ⟨Y, 3, none⟩ (.slice none 0 0) = u1 := ⟨_, rfl⟩
        have ks_1 : KX (fun b => b = Y) w7 u1 := by rw [← hu1]; exact (((((Grw.refl (Y) w7).setCell _ _).setCell _ _).setCell _ _).setCell _ _).kx
        have bY_1 : Bk u1 (Y) [.int .i64 4294967296, .int .i64 4294967296, .int .i64 64, .slice none 0 0] := by rw [← hu1]; exact ((((bY_0.set 0 _).set 1 _).set 2 _).set 3 _)
        have bX_1 := bX_0.kx ks_1 (by omega)
        have bO_1 := bO_0.kx ks_1 (by omega)
        have bM_1 := bM_0.kx ks_1 (by omega)
        have bN_1 := bN_0.kx ks_1 (by omega)
        have kk_1 := hid (kk_0.out.trans (ks_1.mono fun b hb => by omega))
        have hz_1 : u1.heap.size = Z := by rw [← hu1]; simpa using hz_0
        obtain ⟨ly10, ly11, ly12, ly13⟩ : _ ∧ _ ∧ _ ∧ _ := ⟨bY_1.c 0 _ rfl, bY_1.c 1 _ rfl, bY_1.c 2 _ rfl, bY_1.c 3 _ rfl⟩
        obtain ⟨u2, hu2⟩ : ∃ u2, u1.alloc (.cells #[.int .i64 4294967296, .int .i64 4294967296, .int .i64 64, .slice none 0 0] 43) = u2 := ⟨_, rfl⟩
        have ks_2 : Kept u1 u2 := by rw [← hu2]; exact (Kept.refl _).alloc _ _
        have bX_2 := bX_1.kept ks_2
        have bY_2 := bY_1.kept ks_2
        have bO_2 := bO_1.kept ks_2
        have bM_2 := bM_1.kept ks_2
        have bN_2 := bN_1.kept ks_2
        have bZ0_2 : Bk u2 (Z) [.int .i64 4294967296, .int .i64 4294967296, .int .i64 64, .slice none 0 0] := by
          have h := Bk.new u1 [.int .i64 4294967296, .int .i64 4294967296, .int .i64 64, .slice none 0 0] 43
          rw [hz_1] at h
          rw [← hu2]
          exact h
        have kk_2 := hid (kk_1.out.trans (ks_2.kx _))
        have hz_2 : u2.heap.size = Z + 1 := by rw [← hu2, World.size_alloc, hz_1]
        have ls23 := bX_2.c 3 _ rfl
        have lf2 := bX_2.fz
        obtain ⟨u3, hu3⟩ : ∃ u3, (u2).setCell ⟨X, 3, none⟩ (.slice (some ⟨Z, 0, none⟩) 1 1) = u3 := ⟨_, rfl⟩
        have ks_3 : KX (fun b => b = X) u2 u3 := by rw [← hu3]; exact ((Grw.refl (X) u2).setCell _ _).kx
        have bX_3 : Bk u3 (X) [.int .i64 sa, .int .i64 sb, .int .i64 sd, .slice (some ⟨Z, 0, none⟩) 1 1, .slice (some ⟨GQ, 0, none⟩) ql CQ, .int .i64 lo, .int .i64 ra] := by rw [← hu3]; exact (bX_2.set 3 _)
        have bY_3 := bY_2.kx ks_3 (by omega)
        have bO_3 := bO_2.kx ks_3 (by omega)
        have bM_3 := bM_2.kx ks_3 (by omega)
        have bZ0_3 := bZ0_2.kx ks_3 (by omega)
        have bN_3 := bN_2.kx ks_3 (by omega)
        have kk_3 := hid (kk_2.out.trans (ks_3.mono fun b hb => by omega))
        have hz_3 : u3.heap.size = Z + 1 := by rw [← hu3]; simpa using hz_2
        have KF := hid (kept_of_kx K7.out kk_3.out (fun b hb => by have := HX.out; omega))
        obtain ⟨lx0, lx1, lx2, lx3, lx4, lx5, lx6⟩ : _ ∧ _ ∧ _ ∧ _ ∧ _ ∧ _ ∧ _ := ⟨bX_3.c 0 _ rfl, bX_3.c 1 _ rfl, bX_3.c 2 _ rfl, bX_3.c 3 _ rfl, bX_3.c 4 _ rfl, bX_3.c 5 _ rfl, bX_3.c 6 _ rfl⟩
        have BXF := hid bX_3
        have hOne : Sl u3 (.slice (some ⟨X + 1, 0, none⟩) 1 1) [0] := sl_new _ [0] (X + 1) (by decide) (by decide) fun i hi => by have h2 : i < 1 := hi; obtain rfl : i = 0 := (by omega); exact bO_3.c 0 _ rfl
        have HNf := bN_3
        have HZ0 := bZ0_3
        have HSt := hid (show StI u3 (.agg #[.int .i64 sa, .int .i64 sb, .int .i64 sd, .slice (some ⟨Z, 0, none⟩) 1 1, .slice (some ⟨GQ, 0, none⟩) ql CQ, .int .i64 lo, .int .i64 ra]) ⟨sa, sb, sd, [⟨4294967296, 4294967296, 64, []⟩], s.Q, lo, ra⟩ from ⟨_, _, rfl, ml_one (m := ⟨4294967296, 4294967296, 64, []⟩) (vs := []) (by decide) HZ0 ⟨none, 0, rfl, Nat.le_refl _, by decide, fun h => absurd rfl h⟩, HQ.out.kept KF.out⟩)
        have HNo := hid (show ¬ Frm ⟨sa, sb, sd, [⟨4294967296, 4294967296, 64, []⟩], s.Q, lo, ra⟩ from no_p 0 _ rfl nok_great)
        clear bX_0 bY_0 bO_0 bM_0 bN_0 bX_1 bY_1 bO_1 bM_1 bN_1 bX_2 bY_2 bO_2 bM_2 bN_2 bX_3 bY_3 bO_3 bM_3 bN_3 ks_1 ks_2 ks_3 hOne HNf
        go_wp2_with fail
        (try rw [hu1])
        (try rw [hu2])
        (try rw [hu3])
        go_at_call 10
        refine (HWr.out _ _ _ HSt.out (by simp) (by rw [HEQ.out.2.2.2.2.1]; exact HSm.out.2) HNo.out).mono ?_
        rintro e w8 ⟨k8, rfl⟩
        have KG := hid k8
        clear lx0 lx1 lx2 lx3 lx4 lx5 lx6 hu1 hu2 hu3
        obtain ⟨lx0, lx1, lx2, lx3, lx4, lx5, lx6⟩ : _ ∧ _ ∧ _ ∧ _ ∧ _ ∧ _ ∧ _ := ⟨(BXF.out.kept KG.out).c 0 _ rfl, (BXF.out.kept KG.out).c 1 _ rfl, (BXF.out.kept KG.out).c 2 _ rfl, (BXF.out.kept KG.out).c 3 _ rfl, (BXF.out.kept KG.out).c 4 _ rfl, (BXF.out.kept KG.out).c 5 _ rfl, (BXF.out.kept KG.out).c 6 _ rfl⟩
        clear k8
        go_wp2_with fail
        go_at_call 11
        refine (HCk.out _ _ _ (HSt.out.kept KG.out) (by simp) (by rw [HEQ.out.2.2.2.2.1]; exact HSm.out.2) HNo.out).mono ?_
        rintro e w9 ⟨k9, rfl⟩
        go_wp2_with fail
        go_ret
        exact ⟨rfl, K4.out.trans (KF.out.trans (KG.out.trans k9))⟩
end Go.Proofs.Ytfbcdbfalopkeaa
