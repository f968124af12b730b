/- StateLimits: the greatest numbers; as many bytes as there may be, and more. -/
import Derived.Test.YtfbcdbfalopkeaaYB
namespace Go.Proofs.Ytfbcdbfalopkeaa
open Go.ChangeShapes Go.WideShapes Go.ChangeAt Go.RowKit
set_option linter.unusedVariables false
set_option linter.unusedSimpArgs false

theorem bmake_run2 (n : Nat) (hn : n < 100000000) (w : World) : (Instr.makeSlice 26 (.int .i64 (n : Int)) (.int .i64 (n : Int))).run Try.prog w = .ok (.slice (some ⟨w.heap.size, 0, none⟩) n n) (w.alloc (.cells (madeCells #[.int .u8 0] n) 5)) := by
  obtain ⟨i, hi, hz, hs, hby⟩ := info_parts (lb_info)
  have := run_make (P := Try.prog) w 26 5 i (.int .u8 0) lb_under hi hz .i64 .i64 (n : Int) (n : Int) (by omega) (by omega) (by rw [hby]; omega) (by omega)
  rw [hs, Int.toNat_natCast, Nat.mul_one] at this
  exact this
theorem gr_pl : grS.P.length = 64 := List.length_replicate
theorem gr_ql : grS.Q.length = 64 := List.length_replicate
theorem gr_sl : SLen grS := ⟨by rw [gr_pl]; decide, by rw [gr_ql]; decide, fun l hl => by rw [(List.mem_replicate.1 hl).2, List.length_replicate]; decide⟩

set_option maxHeartbeats 16000000 in
set_option maxRecDepth 100000 in
theorem stateLimits_true (x : Int) (w : World) : Calls Try.prog 7 #[.int .i64 x] w fun e w' => e = .returned (.bool true) ∧ Kept w w' := by
  have HA := hid alive23
  have HW : Hid (∀ v u, StI u v grS → Calls Try.prog 10 #[v] u fun e w' => Kept u w' ∧ ∃ g, e = .returned (.tuple #[.slice (some ⟨g, 0, none⟩) 10487476 10487476, .int .i64 0]) ∧ OwnV w' g 10487476 5 ((enc grS).map (Value.int .u8))) := fun v u h => by
    refine (write_any v grS gr_sl.p gr_sl.q u h).mono ?_
    rintro e w' ⟨k, ⟨-, g, rfl, -, ho⟩ | ⟨hn, -⟩⟩
    · rw [gr_len] at ho ⊢
      exact ⟨k, g, rfl, ho⟩
    · exact absurd gr_frm hn
  have HRd : Hid (∀ g u, OwnV u g 10487476 5 ((enc grS).map (Value.int .u8)) → Calls Try.prog 12 #[.slice (some ⟨g, 0, none⟩) 10487476 10487476] u fun e w' => Kept u w' ∧ ∃ v, e = .returned (.tuple #[v, .int .i64 0, .int .i64 0]) ∧ StI w' v grS) := fun g u h => by
    have := read_any (some ⟨g, 0, none⟩) 10487476 (enc grS) (byt_enc grS) (by rw [gr_len]; exact Nat.le_refl _) u (own_br h)
    rw [gr_len, read_enc gr_frm gr_rg] at this
    refine this.mono ?_
    rintro e w' ⟨k, v, rfl, hv⟩
    exact ⟨k, v, rfl, hv.st⟩
  have HRL : Hid (∀ ao cap u, Calls Try.prog 12 #[.slice ao 16777217 cap] u fun e w' => Kept u w' ∧ e = .returned (.tuple #[zst, .int .i64 0, .int .i64 2])) := fun ao cap u => read_long ao 16777217 cap (by decide) u
  have HSame : Hid (∀ v1 v2 u, StI u v1 grS → StI u v2 grS → Calls Try.prog 13 #[v1, v2] u fun e w' => e = .returned (.bool true) ∧ Kept u w') := fun v1 v2 u h1 h2 => same_true grS v1 v2 gr_sl.p gr_sl.q gr_sl.l u h1 h2
  by_cases h0 : Int.tmod x 64 = 0
  · obtain ⟨G, hG⟩ : ∃ G, w.heap.size = G := ⟨_, rfl⟩
    obtain ⟨Cg, hCg⟩ : ∃ Cg, madeCells #[.int .i64 0] 4096 = Cg := ⟨_, rfl⟩
    have hmk : ∀ u : World, (Instr.makeSlice 41 (.int .i64 4096) (.int .i64 4096)).run Try.prog u = .ok (.slice (some ⟨u.heap.size, 0, none⟩) 4096 4096) (u.alloc (.cells Cg 3)) := fun u => by rw [← hCg]; exact tmake_run 4096 4096 (by decide) (by decide) u
    obtain ⟨W0, hW0⟩ : ∃ W0, ((w.alloc (.cells Cg 3)).alloc (.cells #[.int .i64 64, .int .i64 64, .int .i64 64, .slice (some ⟨G, 0, none⟩) 4096 4096] 43)).alloc (.cells #[.int .i64 1099511627776, .int .i64 1099511627776, .int .i64 1099511627776, .slice none 0 0, .slice none 0 0, .int .i64 (-9223372036854775808), .int .i64 9223372036854775807] 25) = W0 := ⟨_, rfl⟩
    have k0 : Kept w W0 := by rw [← hW0]; exact (((Kept.refl w).alloc _ _).alloc _ _).alloc _ _
    have o0 : Own W0 G 4096 (List.replicate 4096 0) := by
      have h := town_made 4096 4096 (by decide) (by decide) w
      rw [hCg, hG] at h
      rw [← hW0]
      exact h.kept (((Kept.refl _).alloc _ _).alloc _ _)
    have t0 : Bk W0 (G + 1) [.int .i64 64, .int .i64 64, .int .i64 64, .slice (some ⟨G, 0, none⟩) 4096 4096] := by
      have h := (Bk.new (w.alloc (.cells Cg 3)) [.int .i64 64, .int .i64 64, .int .i64 64, .slice (some ⟨G, 0, none⟩) 4096 4096] 43).kept (show Kept _ (World.alloc _ (.cells #[.int .i64 1099511627776, .int .i64 1099511627776, .int .i64 1099511627776, .slice none 0 0, .slice none 0 0, .int .i64 (-9223372036854775808), .int .i64 9223372036854775807] 25)) from (Kept.refl _).alloc _ _)
      rw [World.size_alloc, hG, hW0] at h
      exact h
    have s0 : Bk W0 (G + 1 + 1) [.int .i64 1099511627776, .int .i64 1099511627776, .int .i64 1099511627776, .slice none 0 0, .slice none 0 0, .int .i64 (-9223372036854775808), .int .i64 9223372036854775807] := by
      have h := Bk.new ((w.alloc (.cells Cg 3)).alloc (.cells #[.int .i64 64, .int .i64 64, .int .i64 64, .slice (some ⟨G, 0, none⟩) 4096 4096] 43)) [.int .i64 1099511627776, .int .i64 1099511627776, .int .i64 1099511627776, .slice none 0 0, .slice none 0 0, .int .i64 (-9223372036854775808), .int .i64 9223372036854775807] 25
      rw [World.size_alloc, World.size_alloc, hG, hW0] at h
      exact h
    have K0 := hid k0
    have O0 := hid o0
    have T0 := hid t0
    have S0 := hid s0
    have HG := hid hG
    clear k0 o0 t0 s0 hCg
    go_enter Try.func7, Try.ntmps7
    go_wp2_with fail
    go_loopw [5] (fun iv wr => ∃ (i : Nat) (pa qa : Option Addr) (pc qc : Nat), i ≤ 64 ∧ iv = .int .i64 (i : Int) ∧ Kept w wr ∧ Bk wr (G + 1) [.int .i64 64, .int .i64 64, .int .i64 64, .slice (some ⟨G, 0, none⟩) 4096 4096] ∧ Bk wr (G + 1 + 1) [.int .i64 1099511627776, .int .i64 1099511627776, .int .i64 1099511627776, .slice pa i pc, .slice qa i qc, .int .i64 (-9223372036854775808), .int .i64 9223372036854775807] ∧ LimI G (G + 3) i i wr (.slice pa i pc) (.slice qa i qc)) (fun iv _ => 64 - (intOf iv).toNat)
    case atStart => exact ⟨0, none, none, 0, 0, Nat.zero_le _, rfl, K0.out, T0.out, S0.out, O0.out, ⟨[], .inl ⟨rfl, rfl, rfl⟩, fun k hk => by omega⟩, ⟨[], .inl ⟨rfl, rfl, rfl⟩, fun k hk => by omega⟩⟩
    case round =>
      obtain ⟨i, pa, qa, pc, qc, hi, rfl, kr, bt, bs, hL⟩ := hrel
      have hsz : G + 3 ≤ wr.heap.size := by have := bs.lt; omega
      obtain ⟨y0, y1, y2, y3⟩ : _ ∧ _ ∧ _ ∧ _ := ⟨bt.c 0 _ rfl, bt.c 1 _ rfl, bt.c 2 _ rfl, bt.c 3 _ rfl⟩
      have x3 := bs.c 3 _ rfl
      have KR := hid kr
      clear O0 T0 S0 K0
      by_cases hin : i < 64
      · have hbd2 : (i : Int) < 64 := by omega
        have z9 : IntKind.i64.wrap ((i : Int) + 1) = (i : Int) + 1 := by rw [wrap_i64]; omega
        obtain ⟨v6, w6, hr6, hL6, k6⟩ := lim_p hL (by omega) hsz (by omega)
        obtain ⟨pa6, pc6, rfl⟩ : ∃ a c, v6 = .slice a (i + 1) c := by
          obtain ⟨-, ⟨V, h1, -⟩, -⟩ := hL6
          exact h1.form
        have bt6 := bt.kx k6 (by omega)
        have bs6 := bs.kx k6 (by omega)
        have e3 := bs6.c 3 _ rfl
        have f3 := bs6.fz
        obtain ⟨w7, hw7⟩ : ∃ w7, w6.setCell ⟨G + 1 + 1, 3, none⟩ (.slice pa6 (i + 1) pc6) = w7 := ⟨_, rfl⟩
        have ks7 : KX (fun b => b = G + 1 + 1) w6 w7 := by rw [← hw7]; exact ((Grw.refl (G + 1 + 1) w6).setCell _ _).kx
        have bs7 : Bk w7 (G + 1 + 1) [.int .i64 1099511627776, .int .i64 1099511627776, .int .i64 1099511627776, .slice pa6 (i + 1) pc6, .slice qa i qc, .int .i64 (-9223372036854775808), .int .i64 9223372036854775807] := by rw [← hw7]; exact bs6.set 3 _
        have bt7 := bt6.kx ks7 (by omega)
        have hL7 := hL6.kx ks7 (fun b hb => by omega)
        obtain ⟨q0, q1, q2, q3⟩ : _ ∧ _ ∧ _ ∧ _ := ⟨bt7.c 0 _ rfl, bt7.c 1 _ rfl, bt7.c 2 _ rfl, bt7.c 3 _ rfl⟩
        have e4 := bs7.c 4 _ rfl
        have hs7 : G + 3 ≤ w7.heap.size := by have := bs7.lt; omega
        obtain ⟨v9, w9, hr9, hL9, k9⟩ := lim_q hL7 (by omega) hs7 (by omega)
        obtain ⟨qa9, qc9, rfl⟩ : ∃ a c, v9 = .slice a (i + 1) c := by
          obtain ⟨-, -, ⟨V, h1, -⟩⟩ := hL9
          exact h1.form
        have bt9 := bt7.kx k9 (by omega)
        have bs9 := bs7.kx k9 (by omega)
        have g4 := bs9.c 4 _ rfl
        have f4 := bs9.fz
        obtain ⟨w10, hw10⟩ : ∃ w10, w9.setCell ⟨G + 1 + 1, 4, none⟩ (.slice qa9 (i + 1) qc9) = w10 := ⟨_, rfl⟩
        have ks10 : KX (fun b => b = G + 1 + 1) w9 w10 := by rw [← hw10]; exact ((Grw.refl (G + 1 + 1) w9).setCell _ _).kx
        have BS10 : Hid (Bk w10 (G + 1 + 1) [.int .i64 1099511627776, .int .i64 1099511627776, .int .i64 1099511627776, .slice pa6 (i + 1) pc6, .slice qa9 (i + 1) qc9, .int .i64 (-9223372036854775808), .int .i64 9223372036854775807]) := by rw [← hw10]; exact bs9.set 4 _
        have BT10 := hid (bt9.kx ks10 (by omega))
        have HL10 := hid (hL9.kx ks10 (fun b hb => by omega))
        have K10 := hid (kept_of_kx (kept_of_kx (kept_of_kx (kept_of_kx KR.out k6 (fun b hb => by have := HG.out; omega)) ks7 (fun b hb => by have := HG.out; omega)) k9 (fun b hb => by have := HG.out; omega)) ks10 (fun b hb => by have := HG.out; omega))
        have HR6 := hid hr6
        have HR9 := hid hr9
        clear hr6 hr9 hL6 hL7 hL9 hL k6 k9 ks7 ks10 bt6 bs6 bt7 bs7 bt9 bs9 bt bs kr hsz hs7
        go_wp2_with (first | (at_builtin; refine wpList_append_run rfl _ _ _ rfl _ _ rfl rfl _ _ (HR6.out _) ?_; clear HR6) | (at_builtin; refine wpList_append_run rfl _ _ _ rfl _ _ rfl rfl _ _ (HR9.out _) ?_; clear HR9))
        (try rw [hw10])
        go_roundw
        case rel => exact ⟨i + 1, pa6, qa9, pc6, qc9, by omega, by go_num, K10.out, BT10.out, BS10.out, HL10.out⟩
        case measure => simp [intOf]; omega
      · obtain rfl : i = 64 := by omega
        have hSt : StI wr (.agg #[.int .i64 1099511627776, .int .i64 1099511627776, .int .i64 1099511627776, .slice pa 64 pc, .slice qa 64 qc, .int .i64 (-9223372036854775808), .int .i64 9223372036854775807]) grS := ⟨_, _, rfl, hL.ml, hL.ll⟩
        have HSt := hid hSt
        obtain ⟨x0, x1, x2, x4, x5, x6⟩ : _ ∧ _ ∧ _ ∧ _ ∧ _ ∧ _ := ⟨bs.c 0 _ rfl, bs.c 1 _ rfl, bs.c 2 _ rfl, bs.c 4 _ rfl, bs.c 5 _ rfl, bs.c 6 _ rfl⟩
        have BS := hid bs
        clear hSt hL bt bs kr hsz hin hi y0 y1 y2 y3
        go_wp2_with fail
        go_at_call 10
        refine (HW.out _ _ HSt.out).mono ?_
        rintro e w1 ⟨k1, g, rfl, ho⟩
        have HO := hid ho
        have K1 := hid k1
        clear k1 ho x0 x1 x2 x3 x4 x5 x6 HW
        go_wp2_with fail
        go_at_call 12
        refine (HRd.out g w1 HO.out).mono ?_
        rintro e w2 ⟨k2, v2, rfl, hs2⟩
        obtain ⟨pa2, pc2, qa2, qc2, rfl⟩ := hs2.form
        generalize hea : grS.a = sa at *
        generalize heb : grS.b = sb at *
        generalize hed : grS.d = sd at *
        generalize hep : grS.P.length = pl at *
        generalize heq : grS.Q.length = ql at *
        generalize hel : grS.lo = lo at *
        generalize her : grS.ra = ra at *
        clear hea heb hed hep heq hel her
        have K2 := hid (K1.out.trans k2)
        have HS2 := hid hs2
        obtain ⟨D, hD⟩ : ∃ D, w2.heap.size = D := ⟨_, rfl⟩
        obtain ⟨Cb, hCb⟩ : ∃ Cb, madeCells #[.int .u8 0] 16777217 = Cb := ⟨_, rfl⟩
        have hmkb : ∀ u : World, (Instr.makeSlice 26 (.int .i64 16777217) (.int .i64 16777217)).run Try.prog u = .ok (.slice (some ⟨u.heap.size, 0, none⟩) 16777217 16777217) (u.alloc (.cells Cb 5)) := fun u => by rw [← hCb]; exact bmake_run2 16777217 (by decide) u
        obtain ⟨W3, hW3⟩ : ∃ W3, (w2.alloc (.cells #[.int .i64 sa, .int .i64 sb, .int .i64 sd, .slice pa2 pl pc2, .slice qa2 ql qc2, .int .i64 lo, .int .i64 ra] 25)).alloc (.cells Cb 5) = W3 := ⟨_, rfl⟩
        have k3 : Kept w2 W3 := by rw [← hW3]; exact ((Kept.refl w2).alloc _ _).alloc _ _
        have BD := hid (show Bk W3 D [.int .i64 sa, .int .i64 sb, .int .i64 sd, .slice pa2 pl pc2, .slice qa2 ql qc2, .int .i64 lo, .int .i64 ra] by rw [← hW3, ← hD]; exact (Bk.new w2 [.int .i64 sa, .int .i64 sb, .int .i64 sd, .slice pa2 pl pc2, .slice qa2 ql qc2, .int .i64 lo, .int .i64 ra] 25).kept ((Kept.refl _).alloc _ _))
        have K3 := hid (K2.out.trans k3)
        have HS3 := hid (HS2.out.kept k3)
        clear k2 k3 hCb hs2 K1 HO HRd
        go_wp2_with fail
        (try rw [hW3])
        go_at_call 12
        refine (HRL.out _ _ _).mono ?_
        rintro e w4 ⟨k4, rfl⟩
        obtain ⟨W5, hW5⟩ : ∃ W5, w4.alloc (.cells #[.int .i64 0, .int .i64 0, .int .i64 0, .slice none 0 0, .slice none 0 0, .int .i64 0, .int .i64 0] 25) = W5 := ⟨_, rfl⟩
        have k5 : Kept W3 W5 := by rw [← hW5]; exact k4.trans ((Kept.refl w4).alloc _ _)
        have K5 := hid k5
        have HW5 := hid hW5
        clear k4 k5 hW3 hD HRL hmkb hW5
        go_wp2_with fail
        (try rw [HW5.out])
        go_at_call 9
        refine (HA.out _).mono ?_
        rintro e w6 ⟨rfl, k6⟩
        have K6 := hid (K5.out.trans k6)
        obtain ⟨a0, a1, a2, a3, a4, a5, a6⟩ : _ ∧ _ ∧ _ ∧ _ ∧ _ ∧ _ ∧ _ := ⟨(BD.out.kept K6.out).c 0 _ rfl, (BD.out.kept K6.out).c 1 _ rfl, (BD.out.kept K6.out).c 2 _ rfl, (BD.out.kept K6.out).c 3 _ rfl, (BD.out.kept K6.out).c 4 _ rfl, (BD.out.kept K6.out).c 5 _ rfl, (BD.out.kept K6.out).c 6 _ rfl⟩
        obtain ⟨x0, x1, x2, x3, x4, x5, x6⟩ : _ ∧ _ ∧ _ ∧ _ ∧ _ ∧ _ ∧ _ := ⟨(BS.out.kept (K3.out.trans K6.out)).c 0 _ rfl, (BS.out.kept (K3.out.trans K6.out)).c 1 _ rfl, (BS.out.kept (K3.out.trans K6.out)).c 2 _ rfl, (BS.out.kept (K3.out.trans K6.out)).c 3 _ rfl, (BS.out.kept (K3.out.trans K6.out)).c 4 _ rfl, (BS.out.kept (K3.out.trans K6.out)).c 5 _ rfl, (BS.out.kept (K3.out.trans K6.out)).c 6 _ rfl⟩
        clear k6
        go_wp2_with fail
        go_at_call 13
        refine (HSame.out _ _ w6 (HS3.out.kept K6.out) (HSt.out.kept (K3.out.trans K6.out))).mono ?_
        rintro e w7 ⟨rfl, k7⟩
        go_wp2_with fail
        go_ret
        exact ⟨rfl, (KR.out.trans (K3.out.trans K6.out)).trans k7⟩
  · go_enter Try.func7, Try.ntmps7
    go_wp2_with (first | (go_at_call 9; refine (HA.out _).mono ?_; rintro e w4 ⟨rfl, k4⟩))
    go_ret
    exact ⟨rfl, k4⟩
end Go.Proofs.Ytfbcdbfalopkeaa
