/- StateTurned: the law. -/
import Derived.Test.YtfbcdbfalopkeaaWH
import Derived.Test.YtfbcdbfalopkeaaWK
namespace Go.Proofs.Ytfbcdbfalopkeaa
open Go.ChangeShapes Go.WideShapes Go.ChangeAt Go.RowKit
set_option linter.unusedVariables false
set_option linter.unusedSimpArgs false

set_option maxHeartbeats 16000000 in
set_option maxRecDepth 100000 in
theorem stateTurned_true (v : Value) (s : Sta) (ct : Int) (hc1 : -9223372036854775808 ≤ ct) (hc2 : ct ≤ 9223372036854775807) (to : Int) (ht1 : 0 ≤ to) (ht2 : to ≤ 255) (w : World) (hS : StI w v s) (hrg : SRg s) (hsl : SLen s) :
    Calls Try.prog 5 #[v, .int .i64 ct, .int .u8 to] w fun e w' => e = .returned (.bool true) ∧ Kept w w' := by
  have HA := hid alive23
  have HBulk : Hid (∀ u, Kept w u → Calls Try.prog 8 #[v] u fun e w' => (∃ x, e = .returned (.int .i64 x)) ∧ Kept u w') := fun u ku => bulk_any v s hsl.p hsl.q hsl.l u (hS.kept ku)
  have HW : Hid (∀ u, Kept w u → Calls Try.prog 10 #[v] u fun e w' => Kept u w' ∧ WrP u.heap.size s e w') := fun u ku => write_any v s hsl.p hsl.q u (hS.kept ku)
  have HSZ : Hid (∀ u, Calls Try.prog 13 #[zst, zst] u fun e w' => e = .returned (.bool true) ∧ Kept u w') := fun u => same_true sta0 zst zst (by decide) (by decide) (by decide) u (zst_st u) (zst_st u)
  have HFs : Hid (Frm s → 0 < (enc s).length ∧ (enc s).length ≤ 14000000) := fun h => by
    have := (enc_parts h hrg)
    omega
  have HRT : Hid (Frm s → ∀ (k : Nat) g C u, k < (enc s).length → (enc s).length ≤ C → to ≠ (enc s).getD k 0 → OwnV u g C 5 (((enc s).set k to).map (Value.int .u8)) → Calls Try.prog 12 #[.slice (some ⟨g, 0, none⟩) (enc s).length C] u fun e w' => Kept u w' ∧ ∃ er r, e = .returned (.tuple #[zst, .int .i64 r, .int .i64 er]) ∧ 50 ≤ er ∧ er ≤ 52 ∧ (k : Int) - 7 ≤ r) := fun hF k g C u hk hkc hne h => by
    have hl : ((enc s).set k to).length = (enc s).length := List.length_set
    have hby : Byt ((enc s).set k to) := fun j hj => by
      by_cases e : j = k
      · subst e
        rw [List.getD_eq_getElem?_getD, List.getElem?_set_self hk]
        exact ⟨ht1, by show to < 256; omega⟩
      · rw [set_getD _ _ _ _ e]
        exact (byt_enc s).at j
    have := read_any (some ⟨g, 0, none⟩) C ((enc s).set k to) hby (by rw [hl]; exact hkc) u (own_br h)
    obtain ⟨er, r, e1, e2, e3, e4⟩ := read_turned hF hrg k hk to ⟨ht1, by omega⟩ hne
    rw [hl, e1] at this
    refine this.mono ?_
    rintro e w' ⟨k1, h1⟩
    exact ⟨k1, er, r, h1, e2, e3, e4⟩
  have HRS : Hid (Frm s → ∀ g C u, (enc s).length ≤ C → OwnV u g C 5 ((enc s).map (Value.int .u8)) → Calls Try.prog 12 #[.slice (some ⟨g, 0, none⟩) (enc s).length C] u fun e w' => Kept u w' ∧ ∃ v2, e = .returned (.tuple #[v2, .int .i64 0, .int .i64 0]) ∧ StI w' v2 s) := fun hF g C u hkc h => by
    have := read_any (some ⟨g, 0, none⟩) C (enc s) (byt_enc s) hkc u (own_br h)
    rw [read_enc hF hrg] at this
    refine this.mono ?_
    rintro e w' ⟨k, v2, rfl, hv⟩
    exact ⟨k, v2, rfl, hv.st⟩
  have HSame : Hid (∀ v2 u, Kept w u → StI u v2 s → Calls Try.prog 13 #[v2, v] u fun e w' => e = .returned (.bool true) ∧ Kept u w') := fun v2 u ku h2 => same_true s v2 v hsl.p hsl.q hsl.l u h2 (hS.kept ku)
  have HWi : Hid (∀ (n : Nat) u, 0 < n → Calls Try.prog 14 #[.int .i64 ct, .int .i64 (n : Int)] u fun e w' => (∃ k : Nat, k < n ∧ e = .returned (.int .i64 (k : Int))) ∧ Kept u w') := fun n u hn => within_any ct n hc1 hc2 hn u
  obtain ⟨pa, pc, qa, qc, rfl⟩ := hS.form
  clear hS hrg hsl hc1 hc2 ht1 ht2
  obtain ⟨n, hn⟩ : ∃ n, (enc s).length = n := ⟨_, rfl⟩
  rw [hn] at HFs HRT HRS
  have HEn := hid hn
  clear hn
  generalize s.P.length = pl at *
  generalize s.Q.length = ql at *
  generalize s.a = sa at *
  generalize s.b = sb at *
  generalize s.d = sd at *
  generalize s.lo = lo at *
  generalize s.ra = ra at *
  obtain ⟨M, hM⟩ : ∃ M, w.heap.size = M := ⟨_, rfl⟩
  obtain ⟨W0, hW0⟩ : ∃ W0, w.alloc (.cells #[.int .i64 sa, .int .i64 sb, .int .i64 sd, .slice pa pl pc, .slice qa ql qc, .int .i64 lo, .int .i64 ra] 25) = W0 := ⟨_, rfl⟩
  have k0 : Kept w W0 := by rw [← hW0]; exact (Kept.refl w).alloc _ _
  have b0 : Bk W0 M [.int .i64 sa, .int .i64 sb, .int .i64 sd, .slice pa pl pc, .slice qa ql qc, .int .i64 lo, .int .i64 ra] := by rw [← hW0, ← hM]; exact Bk.new w _ _
  have HBk := hid (show ∀ u, Kept W0 u → u.cell? ⟨M, 0, none⟩ = some (.int .i64 sa) ∧ u.cell? ⟨M, 1, none⟩ = some (.int .i64 sb) ∧ u.cell? ⟨M, 2, none⟩ = some (.int .i64 sd) ∧ u.cell? ⟨M, 3, none⟩ = some (.slice pa pl pc) ∧ u.cell? ⟨M, 4, none⟩ = some (.slice qa ql qc) ∧ u.cell? ⟨M, 5, none⟩ = some (.int .i64 lo) ∧ u.cell? ⟨M, 6, none⟩ = some (.int .i64 ra) from fun u ku => by
    have b := b0.kept ku
    exact ⟨b.c 0 _ rfl, b.c 1 _ rfl, b.c 2 _ rfl, b.c 3 _ rfl, b.c 4 _ rfl, b.c 5 _ rfl, b.c 6 _ rfl⟩)
  have HK0 := hid k0
  obtain ⟨x0, x1, x2, x3, x4, x5, x6⟩ := HBk.out W0 (Kept.refl W0)
  clear k0 b0
  go_enter Try.func5, Try.ntmps5
  go_wp2_with fail
  go_at_call 8
  refine (HBulk.out W0 HK0.out).mono ?_
  rintro e w1 ⟨⟨x, rfl⟩, k1⟩
  have K1 := hid k1
  clear k1 hM hW0 x0 x1 x2 x3 x4 x5 x6
  by_cases hx : 40000 < x
  · have hxd : decide (40000 < x) = true := decide_eq_true hx
    go_wp2_with (first | (go_at_call 9; refine (HA.out _).mono ?_; rintro e w2 ⟨rfl, k2⟩))
    go_ret
    exact ⟨rfl, HK0.out.trans (K1.out.trans k2)⟩
  have hxd : decide (40000 < x) = false := decide_eq_false hx
  have HWc := hid (HW.out w1 (HK0.out.trans K1.out))
  obtain ⟨x0, x1, x2, x3, x4, x5, x6⟩ := HBk.out w1 K1.out
  go_wp2_with fail
  go_at_call 10
  refine HWc.out.mono ?_
  rintro e w2 ⟨k2, hwr⟩
  have K2 := hid (K1.out.trans k2)
  have K1x := hid K1.out
  clear x0 x1 x2 x3 x4 x5 x6 hx hxd k2 HWc HBulk K1
  rcases (show _ ∨ _ from hwr).symm with ⟨hF, rfl⟩ | ⟨hF, g, rfl, hg, ho⟩
  · clear hF
    go_wp2_with fail
    go_at_call 9
    refine (HA.out _).mono ?_
    rintro e w3 ⟨rfl, k3⟩
    go_wp2_with fail
    go_at_call 9
    refine (HA.out _).mono ?_
    rintro e w4 ⟨rfl, k4⟩
    go_wp2_with fail
    go_ret
    exact ⟨rfl, HK0.out.trans ((K2.out.trans k3).trans k4)⟩
  rw [HEn.out] at ho ⊢
  have HO := hid ho
  obtain ⟨hn0, hnm⟩ := HFs.out hF
  have HFr := hid hF
  have hnz : ((n : Int) == 0) = false := by simp; omega
  have hnz2 : (n == 0) = false := by simp; omega
  have HNm := hid (show 0 < n ∧ n ≤ 14000000 from ⟨hn0, hnm⟩)
  have HG := hid (show w.heap.size ≤ g from Nat.le_trans (HK0.out.trans K1x.out).below.size hg)
  clear ho hn0 hnm hg hF
  go_wp2_with fail
  go_at_call 9
  refine (HA.out _).mono ?_
  rintro e w3 ⟨rfl, k3⟩
  have HO3 := hid (HO.out.kept k3)
  have K3 := hid (K2.out.trans k3)
  have HWn := hid (HWi.out n w3 HNm.out.1)
  clear k3 HO K2
  go_wp2_with fail
  go_at_call 14
  refine HWn.out.mono ?_
  rintro e w4 ⟨⟨k, hk, rfl⟩, k4⟩
  have HO4 := hid (HO3.out.kept k4)
  have K4 := hid (K3.out.trans k4)
  have HKn := hid hk
  clear k4 HO3 K3 HWn hk
  obtain ⟨hk, hkn⟩ : k < n ∧ (k : Int) < (n : Int) := ⟨HKn.out, by have := HKn.out; omega⟩
  have hb1 : (0 : Int) ≤ (k : Int) ∧ (k : Int) < (n : Int) := by omega
  obtain ⟨vA, wA, hrun, kA, hBN⟩ := bapp_nil (enc s) (by have := HNm.out; have := HEn.out; omega) (some ⟨g, 0, none⟩) n w4 (own_br HO4.out)
  rcases hBN with ⟨he, -⟩ | ⟨gA, CA, rfl, hgA, hoA⟩
  · have := HEn.out
    rw [he] at this
    simp at this
    omega
  rw [HEn.out] at hrun
  have HRun := hid hrun
  have KA := hid (K4.out.trans kA)
  have ho5 := HO4.out.kept kA
  have hk2 : k < (enc s).length := by rw [HEn.out]; exact hk
  have c0 := hoA.cell k (.int .u8 ((enc s).getD k 0)) (by
    rw [List.getElem?_map, List.getElem?_eq_getElem hk2, List.getD_eq_getElem?_getD, List.getElem?_eq_getElem hk2]
    rfl)
  have cf := hoA.free k
  have hCA : n ≤ CA := by
    obtain ⟨cur, -, h2, -⟩ := hoA
    rw [← HEn.out]
    simpa using h2
  have hoS : OwnV (wA.setCell ⟨gA, k, none⟩ (.int .u8 to)) gA CA 5 (((enc s).set k to).map (Value.int .u8)) := by
    have := hoA.set k (.int .u8 to)
    rw [List.map_set]
    exact this
  have hgAn : gA ≠ g := by
    intro e
    have h1 := HO4.out.lt
    rw [← e] at h1
    omega
  obtain ⟨b, hbe⟩ : ∃ b, (enc s).getD k 0 = b := ⟨_, rfl⟩
  obtain ⟨Y, hY⟩ : ∃ Y, wA.setCell ⟨gA, k, none⟩ (.int .u8 to) = Y := ⟨_, rfl⟩
  rw [hY] at hoS
  have kY : KX (fun b => b = gA) wA Y := by rw [← hY]; exact ((Grw.refl gA wA).setCell k _).kx
  have hgw : w.heap.size ≤ gA := Nat.le_trans (HK0.out.trans K4.out).below.size hgA
  have KY := hid (kept_of_kx (HK0.out.trans KA.out) kY (fun b hb => by omega))
  have KYM := hid (show M < gA ∧ KX (fun b => b = gA) wA Y from ⟨by have h1 := World.block_lt_of_cell? _ _ (HBk.out w4 K4.out).1; exact Nat.lt_of_lt_of_le h1 hgA, kY⟩)
  have HOb := hid (show ∀ u, Kept Y u → u.cell? ⟨g, k, none⟩ = some (.int .u8 b) from fun u ku => by
    have h1 := ho5.cell k (.int .u8 b) (by
      rw [List.getElem?_map, List.getElem?_eq_getElem hk2, ← hbe, List.getD_eq_getElem?_getD, List.getElem?_eq_getElem hk2]
      rfl)
    have h2 : Y.cell? ⟨g, k, none⟩ = some (.int .u8 b) := (World.cell?_of_block (kY.block g ho5.lt (by omega))).trans h1
    exact (ku.below.cell (p := ⟨g, k, none⟩) (World.block_lt_of_cell? _ _ h2)).trans h2)
  have HBY := hid (show ∀ u, Kept Y u → u.cell? ⟨M, 0, none⟩ = some (.int .i64 sa) ∧ u.cell? ⟨M, 1, none⟩ = some (.int .i64 sb) ∧ u.cell? ⟨M, 2, none⟩ = some (.int .i64 sd) ∧ u.cell? ⟨M, 3, none⟩ = some (.slice pa pl pc) ∧ u.cell? ⟨M, 4, none⟩ = some (.slice qa ql qc) ∧ u.cell? ⟨M, 5, none⟩ = some (.int .i64 lo) ∧ u.cell? ⟨M, 6, none⟩ = some (.int .i64 ra) from fun u ku => by
    obtain ⟨m0, m1, m2, m3, m4, m5, m6⟩ := HBk.out wA KA.out
    have hml := World.block_lt_of_cell? _ _ m0
    have e := KYM.out.2.block M hml (by have := KYM.out.1; omega)
    have f : ∀ (o : Nat) (x : Value), wA.cell? ⟨M, o, none⟩ = some x → u.cell? ⟨M, o, none⟩ = some x := fun o x hx => by
      have h2 : Y.cell? ⟨M, o, none⟩ = some x := (World.cell?_of_block e).trans hx
      exact (ku.below.cell (p := ⟨M, o, none⟩) (World.block_lt_of_cell? _ _ h2)).trans h2
    exact ⟨f _ _ m0, f _ _ m1, f _ _ m2, f _ _ m3, f _ _ m4, f _ _ m5, f _ _ m6⟩)
  have HOS := hid hoS
  have HCA := hid hCA
  have HK2 := hid hk2
  have HYe := hid hY
  by_cases hto : to = b
  · have hteq : (to == b) = true := by simp [hto]
    have hse : (enc s).set k to = enc s := by
      rw [hto, ← hbe, List.getD_eq_getElem?_getD, List.getElem?_eq_getElem hk2]
      exact List.set_getElem_self hk2
    have HRc := hid (HRS.out HFr.out gA CA Y hCA (by rw [← hse]; exact hoS))
    clear hrun kA hoA hoS hY kY hgw hgAn hk2 hbe hse ho5 hCA hgA hto HRT HRS
    go_wp2_with (first | (at_builtin; refine wpList_append_run rfl _ _ _ rfl _ _ rfl rfl _ _ (HRun.out _) ?_; clear HRun))
    (try rw [HYe.out])
    go_at_call 12
    refine HRc.out.mono ?_
    rintro e w5 ⟨k5, v4, rfl, hv4⟩
    obtain ⟨pa4, pc4, qa4, qc4, rfl⟩ := hv4.form
    obtain ⟨D4, hD4⟩ : ∃ D4, w5.heap.size = D4 := ⟨_, rfl⟩
    obtain ⟨W4, hW4⟩ : ∃ W4, w5.alloc (.cells #[.int .i64 s.a, .int .i64 s.b, .int .i64 s.d, .slice pa4 s.P.length pc4, .slice qa4 s.Q.length qc4, .int .i64 s.lo, .int .i64 s.ra] 25) = W4 := ⟨_, rfl⟩
    have kw4 : Kept w5 W4 := by rw [← hW4]; exact (Kept.refl w5).alloc _ _
    have b4 : Bk W4 D4 [.int .i64 s.a, .int .i64 s.b, .int .i64 s.d, .slice pa4 s.P.length pc4, .slice qa4 s.Q.length qc4, .int .i64 s.lo, .int .i64 s.ra] := by rw [← hW4, ← hD4]; exact Bk.new w5 _ _
    have K5 := hid (k5.trans kw4)
    obtain ⟨x0, x1, x2, x3, x4, x5, x6⟩ := HBY.out W4 K5.out
    have xb := HOb.out W4 K5.out
    have y0 := b4.c 0 _ rfl
    have y1 := b4.c 1 _ rfl
    have y2 := b4.c 2 _ rfl
    have y3 := b4.c 3 _ rfl
    have y4 := b4.c 4 _ rfl
    have y5 := b4.c 5 _ rfl
    have y6 := b4.c 6 _ rfl
    have HSm := hid (HSame.out _ W4 (KY.out.trans K5.out) (hv4.kept kw4))
    clear b4 kw4 k5 hv4 c0 cf
    generalize s.P.length = pl4 at *
    generalize s.Q.length = ql4 at *
    generalize s.a = sa4 at *
    generalize s.b = sb4 at *
    generalize s.d = sd4 at *
    generalize s.lo = lo4 at *
    generalize s.ra = ra4 at *
    go_wp2_with fail
    (try rw [hW4])
    (try rw [hD4])
    go_at_call 13
    refine HSm.out.mono ?_
    rintro e w6 ⟨rfl, k6⟩
    go_wp2_with fail
    go_ret
    exact ⟨rfl, KY.out.trans (K5.out.trans k6)⟩
  · have hteq : (to == b) = false := by simp [hto]
    have HRc := hid (HRT.out HFr.out k gA CA Y hk hCA (by rw [hbe]; exact hto) hoS)
    clear hrun kA hoA hoS hY kY hgw hgAn hk2 hbe ho5 hCA hgA hto HRT HRS
    go_wp2_with (first | (at_builtin; refine wpList_append_run rfl _ _ _ rfl _ _ rfl rfl _ _ (HRun.out _) ?_; clear HRun))
    (try rw [HYe.out])
    go_at_call 12
    refine HRc.out.mono ?_
    rintro e w5 ⟨k5, er, r, rfl, her1, her2, hr7⟩
    obtain ⟨D, hD⟩ : ∃ D, w5.heap.size = D := ⟨_, rfl⟩
    obtain ⟨W5, hW5⟩ : ∃ W5, w5.alloc (.cells #[.int .i64 0, .int .i64 0, .int .i64 0, .slice none 0 0, .slice none 0 0, .int .i64 0, .int .i64 0] 25) = W5 := ⟨_, rfl⟩
    have kw5 : Kept w5 W5 := by rw [← hW5]; exact (Kept.refl w5).alloc _ _
    have K5 := hid (k5.trans kw5)
    have xb5 := HOb.out w5 k5
    have HW5 := hid hW5
    have xbA : (w5.alloc (.cells #[.int .i64 0, .int .i64 0, .int .i64 0, .slice none 0 0, .slice none 0 0, .int .i64 0, .int .i64 0] 25)).cell? ⟨g, k, none⟩ = some (.int .u8 b) := by rw [hW5]; exact HOb.out W5 K5.out
    have d1 : decide (50 ≤ er) = true := decide_eq_true her1
    have d2 : decide (er ≤ 52) = true := decide_eq_true her2
    have d3 : decide ((k : Int) - 7 ≤ r) = true := decide_eq_true hr7
    have z7 : IntKind.i64.wrap ((k : Int) - 7) = (k : Int) - 7 := by have := HNm.out; have := HKn.out; rw [wrap_i64]; omega
    clear hW5 kw5 k5 c0 cf her1 her2 hr7
    go_wp2_with fail
    (try rw [HW5.out])
    (try rw [hD])
    go_at_call 13
    refine (HSZ.out W5).mono ?_
    rintro e w6 ⟨rfl, k6⟩
    go_wp2_with fail
    go_ret
    exact ⟨rfl, KY.out.trans (K5.out.trans k6)⟩
theorem wf_u8 (a : Int) (h : (Lit.int .u8 a).wf = true) : 0 ≤ a ∧ a ≤ 255 := by
  simp only [Lit.wf, Bool.and_eq_true, decide_eq_true_eq] at h
  have h1 : IntKind.u8.min = 0 := rfl
  have h2 : IntKind.u8.max = 255 := rfl
  omega
end Go.Proofs.Ytfbcdbfalopkeaa
