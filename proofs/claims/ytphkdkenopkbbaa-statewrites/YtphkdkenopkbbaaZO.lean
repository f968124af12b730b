/- The laws of chapter 23: writes. The laws of chapter 23: bytes that were answered are marked, grown, looked at. The laws of chapter 23: what was kept is apart (one state that was written, or none); StateWrites. -/
import Derived.Test.YtphkdkenopkbbaaZN
namespace Go.Proofs.Ytphkdkenopkbbaa
open Go.ChangeShapes Go.WideShapes Go.ChangeAt Go.RowKit
set_option linter.unusedVariables false
set_option linter.unusedSimpArgs false

theorem KX.shrink {X Y : Nat → Prop} {a b : World} (h : KX X a b) (k : ∀ i, i < a.heap.size → X i → Y i) : KX Y a b := ⟨h.os, h.tape, h.output, h.size, fun i hi hn => h.block i hi (fun hx => hn (k i hi hx)), h.frozen⟩
theorem BN.notOwn {H : Nat} {u : World} {v : Value} {B : List Int} (h : BN H u v B) {g c : Nat} {L : List Int} (ho : Own u g c L) : ¬ Go.Proofs.Ytphkdkenopkbbaa.blk v g := by
  rintro ⟨n, c2, e⟩
  rcases h with ⟨-, e2⟩ | ⟨g2, C, e2, -, cur, h1, -⟩
  · rw [e] at e2; cases e2
  · rw [e] at e2; cases e2
    obtain ⟨cur2, h2, -⟩ := ho
    rw [h1] at h2
    simp at h2
theorem ExB.kx {u u' : World} {bv : Value} {B : List Int} (h : ExB u bv B) {X : Nat → Prop} (k : KX X u u') (hX : ∀ b, X b → ¬ blk bv b) : ExB u' bv B := by
  rcases h with h | ⟨g, rfl, h0, ho⟩
  · exact .inl h
  · refine .inr ⟨g, rfl, h0, ?_⟩
    have hb := k.block g ho.lt fun hx => hX g hx ⟨_, _, rfl⟩
    obtain ⟨cur, h1, r⟩ := ho
    exact ⟨cur, hb.trans h1, r⟩
theorem SnL.kx {H : Nat} {w w' : World} {v : Value} {s : Sta} {X : Nat → Prop} (h : SnL H w v s) (k : KX X w w') (hX : ∀ b, X b → b < H) : SnL H w' v s := by
  obtain ⟨pv, qv, e, h1, h2⟩ := h
  exact ⟨pv, qv, e, h1.kx k hX, h2.kx k hX⟩
/-- One state has been written: what is kept of it. -/
def KpW (K H : Nat) (u : World) : Prop := ∃ B bv cv R1 C1 R2 C2, Byt B ∧ B.length ≤ 14000000 ∧ Bk u K [.slice (some ⟨R1, 0, none⟩) 1 C1, .slice (some ⟨R2, 0, none⟩) 1 C2, .slice none 0 0, .slice none 0 0] ∧ H ≤ R1 ∧ 1 ≤ C1 ∧ OwnS u R1 C1 1 35 [bv] ∧ H ≤ R2 ∧ 1 ≤ C2 ∧ OwnS u R2 C2 1 35 [cv] ∧ ExB u bv B ∧ (∀ b, blk bv b → H ≤ b) ∧ BN 0 u cv B
theorem KpW.kx {K H : Nat} {u u' : World} (h : KpW K H u) (k : Kept u u') : KpW K H u' := by
  obtain ⟨B, bv, cv, R1, C1, R2, C2, h1, h2, h3, h4, h5, h6, h7, h8, h9, h10, h11, h12⟩ := h
  exact ⟨B, bv, cv, R1, C1, R2, C2, h1, h2, h3.kept k, h4, h5, h6.kept k, h7, h8, h9.kept k, h10.kept k, h11, h12.kept k⟩

theorem KpW.poke {K H : Nat} {u : World} (h : KpW K H u) {g c : Nat} {L : List Int} (ho : Own u g c L) (hK : K ≠ g) (v : Value) : KpW K H (u.setCell ⟨g, 0, none⟩ v) := by
  have k : KX (fun b => b = g) u (u.setCell ⟨g, 0, none⟩ v) := ((Grw.refl g u).setCell _ _).kx
  obtain ⟨B, bv, cv, R1, C1, R2, C2, h1, h2, h3, h4, h5, h6, h7, h8, h9, h10, h11, h12⟩ := h
  exact ⟨B, bv, cv, R1, C1, R2, C2, h1, h2, h3.kx k hK, h4, h5, h6.setOther (own_not_s ho (by decide) h6) v, h7, h8, h9.setOther (own_not_s ho (by decide) h9) v, h10.kx k (fun b hb => by subst hb; exact h10.bn.notOwn ho), h11, h12.kx k (fun b hb => by subst hb; exact h12.notOwn ho)⟩

set_option maxHeartbeats 16000000 in
set_option maxRecDepth 100000 in
theorem writes_any (v : Value) (s : Sta) (K : Nat) (hsm : Smal s) (hrg : SRg s) (w : World) (hS : StI w v s) (hk : Bk w K [.slice none 0 0, .slice none 0 0, .slice none 0 0, .slice none 0 0]) :
    Calls Try.prog 8 #[v, .pointer (some ⟨K, 0, none⟩)] w fun e w' => e = .returned (.bool true) ∧ KX (fun b => b = K) w w' ∧ KpW K w.heap.size w' := by
  obtain ⟨B, er, hA⟩ := ans_of hsm hrg
  have HA := hid hA
  have HSm := hid (show Smal s ∧ SRg s from ⟨hsm, hrg⟩)
  have hb := hsm.bn
  have HL := hid (show ∀ u, Kept w u → Calls Try.prog 16 #[v] u fun e w' => ∃ x, e = .returned x ∧ SnL u.heap.size w' x s ∧ Kept u w' from fun u ku => lentS_any v s (by have := hsm.p; omega) (by have := hsm.q; omega) (fun i m hi => by have := hsm.pm i m hi (List.getElem?_eq_some_iff.1 hi).1; omega) (fun i l hi => by
    have := hsm.qm i l hi (List.getElem?_eq_some_iff.1 hi).1
    exact ⟨by omega, fun j m hj => by have := this.2 j m hj (List.getElem?_eq_some_iff.1 hj).1; omega⟩) u (hS.kept ku))
  have HStW := hid hS
  obtain ⟨pa, pc, qa, qc, rfl⟩ := hS.form
  have hKw := hk.lt
  obtain ⟨M, hM⟩ : ∃ M, w.heap.size = M := ⟨_, rfl⟩
  rw [hM] at hKw
  have HEQ := hid (show s.P.length = s.P.length ∧ s.Q.length = s.Q.length ∧ s.a = s.a ∧ s.b = s.b ∧ s.d = s.d ∧ s.lo = s.lo ∧ s.ra = s.ra from ⟨rfl, rfl, rfl, rfl, rfl, rfl, rfl⟩)
  obtain ⟨pl, hpl⟩ : ∃ x, s.P.length = x := ⟨_, rfl⟩
  obtain ⟨ql, hql⟩ : ∃ x, s.Q.length = x := ⟨_, rfl⟩
  obtain ⟨sa, hsa⟩ : ∃ x, s.a = x := ⟨_, rfl⟩
  obtain ⟨sb, hsb⟩ : ∃ x, s.b = x := ⟨_, rfl⟩
  obtain ⟨sd, hsd⟩ : ∃ x, s.d = x := ⟨_, rfl⟩
  obtain ⟨lo, hlo⟩ : ∃ x, s.lo = x := ⟨_, rfl⟩
  obtain ⟨ra, hra⟩ : ∃ x, s.ra = x := ⟨_, rfl⟩
  rw [hpl, hql, hsa, hsb, hsd, hlo, hra] at HL HStW ⊢
  clear HEQ
  have HEQ := hid (show s.P.length = pl ∧ s.Q.length = ql ∧ s.a = sa ∧ s.b = sb ∧ s.d = sd ∧ s.lo = lo ∧ s.ra = ra from ⟨hpl, hql, hsa, hsb, hsd, hlo, hra⟩)
  clear hpl hql hsa hsb hsd hlo hra hS hsm hrg hA hb
  obtain ⟨W0, hW0⟩ : ∃ W0, w.alloc (.cells #[.int .i64 sa, .int .i64 sb, .int .i64 sd, .slice pa pl pc, .slice qa ql qc, .int .i64 lo, .int .i64 ra] 25) = W0 := ⟨_, rfl⟩
  have k0 : Kept w W0 := by rw [← hW0]; exact (Kept.refl w).alloc _ _
  have b0 : Bk W0 M [.int .i64 sa, .int .i64 sb, .int .i64 sd, .slice pa pl pc, .slice qa ql qc, .int .i64 lo, .int .i64 ra] := by rw [← hW0, ← hM]; exact Bk.new w _ _
  have HBm := hid b0
  have HKb := hid hk
  have HKw := hid hKw
  have HK0 := hid k0
  have HM := hid hM
  obtain ⟨x0, x1, x2, x3, x4, x5, x6⟩ : _ ∧ _ ∧ _ ∧ _ ∧ _ ∧ _ ∧ _ := ⟨b0.c 0 _ rfl, b0.c 1 _ rfl, b0.c 2 _ rfl, b0.c 3 _ rfl, b0.c 4 _ rfl, b0.c 5 _ rfl, b0.c 6 _ rfl⟩
  clear k0 b0 hk hKw
  go_enter Try.func8, Try.ntmps8
  go_wp2_with fail
  go_at_call 16
  refine (HL.out W0 HK0.out).mono ?_
  rintro e w1 ⟨vx, rfl, hx, k1⟩
  have hs0 : W0.heap.size = M + 1 := by rw [← hW0, World.size_alloc, hM]
  rw [hs0] at hx
  have HX1 := hid hx
  obtain ⟨pv, qv, rfl, hpv, hqv⟩ := hx
  obtain ⟨GP, CP, rfl, -⟩ := hpv.form
  obtain ⟨GQ, CQ, rfl, -⟩ := hqv.form
  obtain ⟨ep, eq, ea, eb, ed, el, er2⟩ := HEQ.out
  rw [ea, eb, ed, ep, eq, el, er2] at HX1 ⊢
  obtain ⟨X, hX⟩ : ∃ X, w1.heap.size = X := ⟨_, rfl⟩
  obtain ⟨W2, hW2⟩ : ∃ W2, w1.alloc (.cells #[.int .i64 sa, .int .i64 sb, .int .i64 sd, .slice (some ⟨GP, 0, none⟩) pl CP, .slice (some ⟨GQ, 0, none⟩) ql CQ, .int .i64 lo, .int .i64 ra] 25) = W2 := ⟨_, rfl⟩
  have k2 : Kept w1 W2 := by rw [← hW2]; exact (Kept.refl w1).alloc _ _
  have bx : Bk W2 X [.int .i64 sa, .int .i64 sb, .int .i64 sd, .slice (some ⟨GP, 0, none⟩) pl CP, .slice (some ⟨GQ, 0, none⟩) ql CQ, .int .i64 lo, .int .i64 ra] := by rw [← hW2, ← hX]; exact Bk.new w1 _ _
  have K2 := hid (k1.trans k2)
  have HK12 := hid k2
  have HPv := hid (show LnV (M + 1) w1 (.slice (some ⟨GP, 0, none⟩) pl CP) s.P by rw [← ep]; exact hpv)
  have HX2 := hid (HX1.out.kx (k2.kx fun _ => False) (fun b hb => hb.elim))
  have HBx := hid bx
  have HXe := hid (show w1.heap.size = X from hX)
  have HGK := hid (show M + 1 ≤ GP by obtain ⟨_, _, _, e, h, -⟩ := HPv.out; cases e; exact h)
  have HXM := hid (show M + 1 ≤ X by have := k1.below.size; omega)
  clear x0 x1 x2 x3 x4 x5 x6 hM hW0 hs0 ep eq ea eb ed el er2 hpv hqv k1 k2 HX1 HL
  obtain ⟨x0, x1, x2, x3, x4, x5, x6⟩ : _ ∧ _ ∧ _ ∧ _ ∧ _ ∧ _ ∧ _ := ⟨bx.c 0 _ rfl, bx.c 1 _ rfl, bx.c 2 _ rfl, bx.c 3 _ rfl, bx.c 4 _ rfl, bx.c 5 _ rfl, bx.c 6 _ rfl⟩
  clear bx
  go_wp2_with fail
  (try rw [hW2])
  go_at_call 11
  refine (HA.out.w _ W2 HX2.out.st).mono ?_
  rintro e w3 ⟨k3, bv, rfl, hbv, hbb⟩
  have K3 := hid k3
  have HBv := hid hbv
  have HBb := hid hbb
  clear x0 x1 x2 x3 x4 x5 x6 hW2 hX k3 hbv hbb
  have bm3 := HBm.out.kept (K2.out.trans K3.out)
  obtain ⟨x0, x1, x2, x3, x4, x5, x6⟩ : _ ∧ _ ∧ _ ∧ _ ∧ _ ∧ _ ∧ _ := ⟨bm3.c 0 _ rfl, bm3.c 1 _ rfl, bm3.c 2 _ rfl, bm3.c 3 _ rfl, bm3.c 4 _ rfl, bm3.c 5 _ rfl, bm3.c 6 _ rfl⟩
  clear bm3
  go_wp2_with fail
  go_at_call 17
  refine (HA.out.r _ w3 (HStW.out.kept (HK0.out.trans (K2.out.trans K3.out)))).mono ?_
  rintro e w4 ⟨k4, cv, rfl, hcv, hcb4⟩
  have HCb := hid (show ∀ b, blk cv b → M + 1 ≤ b from fun b hb => by have := hcb4 b hb; have := (HBx.out.kept K3.out).lt; have := HXM.out; omega)
  clear hcb4
  have K4 := hid (K3.out.trans k4)
  have HCv := hid hcv
  have HB4 := hid (HBv.out.kept k4)
  clear x0 x1 x2 x3 x4 x5 x6 k4 hcv HBv K3
  have bx4 := HBx.out.kept K4.out
  obtain ⟨x0, x1, x2, x3, x4, x5, x6⟩ : _ ∧ _ ∧ _ ∧ _ ∧ _ ∧ _ ∧ _ := ⟨bx4.c 0 _ rfl, bx4.c 1 _ rfl, bx4.c 2 _ rfl, bx4.c 3 _ rfl, bx4.c 4 _ rfl, bx4.c 5 _ rfl, bx4.c 6 _ rfl⟩
  clear bx4
  go_wp2_with fail
  go_at_call 15
  refine (HA.out.c _ w4 (HX2.out.st.kept K4.out)).mono ?_
  rintro e w5 ⟨k5, rfl⟩
  have K5 := hid (K4.out.trans k5)
  have HB5 := hid (HB4.out.kept k5)
  have HC5 := hid (HCv.out.kept k5)
  clear x0 x1 x2 x3 x4 x5 x6 k5 HB4 HCv K4
  have bx5 := HBx.out.kept K5.out
  have bm5 := HBm.out.kept (K2.out.trans K5.out)
  obtain ⟨x0, x1, x2, x3, x4, x5, x6⟩ : _ ∧ _ ∧ _ ∧ _ ∧ _ ∧ _ ∧ _ := ⟨bx5.c 0 _ rfl, bx5.c 1 _ rfl, bx5.c 2 _ rfl, bx5.c 3 _ rfl, bx5.c 4 _ rfl, bx5.c 5 _ rfl, bx5.c 6 _ rfl⟩
  obtain ⟨y0, y1, y2, y3, y4, y5, y6⟩ : _ ∧ _ ∧ _ ∧ _ ∧ _ ∧ _ ∧ _ := ⟨bm5.c 0 _ rfl, bm5.c 1 _ rfl, bm5.c 2 _ rfl, bm5.c 3 _ rfl, bm5.c 4 _ rfl, bm5.c 5 _ rfl, bm5.c 6 _ rfl⟩
  have sb1 := bn_str HB5.out.bn HA.out.byt
  have sc1 := bn_str HC5.out HA.out.byt
  have heq : ∀ (S : ByteArray) (u : World), (binOp .neq 9 (.string S) (.string S)).run Try.prog u = .ok (.bool false) u := fun S u => by
    rw [binOp_string_neq]
    simp [Sem.run_pure]
  clear bx5 bm5
  generalize SB B = S at *
  go_wp2_with fail
  go_at_call 18
  refine (kept_any (M + 1) _ _ s HSm.out.1 w5 (HX2.out.kx (K5.out.kx fun _ => False) (fun b hb => hb.elim)) (HStW.out.kept (HK0.out.trans (K2.out.trans K5.out)))).mono ?_
  rintro e w6 ⟨rfl, k6⟩
  have K6 := hid (K5.out.trans k6)
  have HB6 := hid (HB5.out.kept k6)
  have HC6 := hid (HC5.out.kept k6)
  have KW6 := hid (HK0.out.trans (K2.out.trans K6.out))
  obtain ⟨ao1, cb1, rfl⟩ := HB6.out.bn.form
  obtain ⟨ao2, cb2, rfl⟩ := HC6.out.form
  have hs6 : M + 2 ≤ w6.heap.size := by have := (HBx.out.kept K6.out).lt; have := HXM.out; omega
  have hk6 := HKb.out.kept KW6.out
  obtain ⟨R1, C1, w7, hr1, hR1, hC1, ho1, k7⟩ := lb_first (M + 2) w6 (.slice ao1 B.length cb1) ⟨_, _, _, rfl⟩ hs6
  have hk7 := hk6.kept k7
  obtain ⟨w8, hw8⟩ : ∃ w8, w7.setCell ⟨K, 0, none⟩ (.slice (some ⟨R1, 0, none⟩) 1 C1) = w8 := ⟨_, rfl⟩
  have ks8 : KX (fun b => b = K) w7 w8 := by rw [← hw8]; exact ((Grw.refl K w7).setCell _ _).kx
  have hk8 : Bk w8 K [.slice (some ⟨R1, 0, none⟩) 1 C1, .slice none 0 0, .slice none 0 0, .slice none 0 0] := by rw [← hw8]; exact hk7.set 0 _
  have hs8 : M + 2 ≤ w8.heap.size := by have := k7.below.size; have := ks8.size; omega
  obtain ⟨R2, C2, w9, hr2, hR2, hC2, ho2, k9⟩ := lb_first (M + 2) w8 (.slice ao2 B.length cb2) ⟨_, _, _, rfl⟩ hs8
  have hk9 := hk8.kept k9
  obtain ⟨w10, hw10⟩ : ∃ w10, w9.setCell ⟨K, 1, none⟩ (.slice (some ⟨R2, 0, none⟩) 1 C2) = w10 := ⟨_, rfl⟩
  have ks10 : KX (fun b => b = K) w9 w10 := by rw [← hw10]; exact ((Grw.refl K w9).setCell _ _).kx
  have hk10 : Bk w10 K [.slice (some ⟨R1, 0, none⟩) 1 C1, .slice (some ⟨R2, 0, none⟩) 1 C2, .slice none 0 0, .slice none 0 0] := by rw [← hw10]; exact hk9.set 1 _
  have HKx := hid (show KX (fun b => b = K) w6 w10 from ((k7.kx _).trans ks8).trans ((k9.kx _).trans ks10))
  have hKM : K < M := HKw.out
  have HKp : Hid (KpW K M w10) := by
    have hnb : ∀ b, b = K → ¬ blk (.slice ao1 B.length cb1) b := fun b e hb => by
      have := HBb.out b hb
      have h2 := HBx.out.lt
      have := HXM.out
      omega
    have hcb : ∀ b, b = K → ¬ blk (.slice ao2 B.length cb2) b := fun b e hb => by have := HCb.out b hb; omega
    exact ⟨B, _, _, R1, C1, R2, C2, HA.out.byt, HA.out.len, hk10, by omega, hC1, ((ho1.on (ks8.block R1 ho1.lt (by omega))).kept k9).on (ks10.block R1 ((ho1.on (ks8.block R1 ho1.lt (by omega))).kept k9).lt (by omega)), by omega, hC2, ho2.on (ks10.block R2 ho2.lt (by omega)), HB6.out.kx HKx.out hnb, fun b hb => by have := HBb.out b hb; have := HBx.out.lt; have := HXM.out; omega, HC6.out.kx HKx.out hcb⟩
  have hx10 := hid (HX2.out.kx ((K6.out.kx _).trans HKx.out) (fun b hb => by omega))
  have hbx10 := (HBx.out.kept K6.out).kx HKx.out (by have := HXM.out; omega)
  have HBx10 := hid hbx10
  have HKw10 := hid (show KX (fun b => b = K) w w10 from (KW6.out.kx _).trans HKx.out)
  have e3 := hbx10.c 3 _ rfl
  have HK110 := hid (show KX (fun b => b = K) w1 w10 from ((HK12.out.trans K6.out).kx _).trans HKx.out)
  have h70 := hk7.c 0 _ rfl
  have f70 := hk7.fz 0
  have h60 := hk6.c 0 _ rfl
  have h81 := hk8.c 1 _ rfl
  have h91 := hk9.c 1 _ rfl
  have f91 := hk9.fz 1
  have HR1 := hid hr1
  have HR2 := hid hr2
  clear hr1 hr2 hk6 hk7 hk8 hk9 hk10 ks8 ks10 k7 k9 ho1 ho2 hs6 hs8 hR1 hR2 hC1 hC2 k6 x0 x1 x2 x3 x4 x5 x6 y0 y1 y2 y3 y4 y5 y6 sb1 sc1 HKx hbx10
  by_cases hp0 : pl = 0
  · subst hp0
    go_wp2_with (first | (at_builtin; refine wpList_append_run rfl _ _ _ rfl _ _ rfl rfl _ _ (HR1.out _) ?_; clear HR1) | (at_builtin; refine wpList_append_run rfl _ _ _ rfl _ _ rfl rfl _ _ (HR2.out _) ?_; clear HR2))
    go_ret
    exact ⟨rfl, HKw10.out, by rw [HM.out]; exact HKp.out⟩
  obtain ⟨m, hm⟩ : ∃ m, s.P[0]? = some m := ⟨_, List.getElem?_eq_getElem (by have := HEQ.out.1; omega)⟩
  obtain ⟨G', C', V, e, -, -, hV, hO⟩ := HPv.out
  have eG : G' = GP := by injection e with e1 e2 e3; injection e1 with e4; injection e4 with e5; exact e5.symm
  have eC : C' = CP := by injection e with e1 e2 e3; exact e3.symm
  subst eG eC
  clear e
  obtain ⟨gb, Cb, hgM, hob, -, -, -, g3⟩ := hV.get 0 m hm
  have hVl := hV.len
  have hVl2 : 4 ≤ V.length := by have := HEQ.out.1; omega
  have hgX : gb < X := by have := hob.lt; have := HXe.out; omega
  have hob10 := hob.onB (HK110.out.block gb hob.lt (by omega))
  have hO10 := hO.on (HK110.out.block _ hO.lt (fun h => by have := HGK.out; omega))
  have r3 := hO10.cell 3 _ ((List.getElem?_append_left (by omega)).trans g3)
  obtain ⟨kk, hkk⟩ : ∃ kk, m.L.length = kk := ⟨_, rfl⟩
  rw [hkk] at r3
  have hp1 : ((pl : Int) == 0) = false := by simpa using hp0
  have hp2 : (pl == 0) = false := by simpa using hp0
  have hp3 : (0 : Int) < (pl : Int) := by omega
  have hp4 : 0 < pl := by omega
  by_cases hk0 : kk = 0
  · subst hk0
    clear hV hO hob hob10 hO10 hm
    go_wp2_with (first | (at_builtin; refine wpList_append_run rfl _ _ _ rfl _ _ rfl rfl _ _ (HR1.out _) ?_; clear HR1) | (at_builtin; refine wpList_append_run rfl _ _ _ rfl _ _ rfl rfl _ _ (HR2.out _) ?_; clear HR2))
    go_ret
    exact ⟨rfl, HKw10.out, by rw [HM.out]; exact HKp.out⟩
  have hk1 : ((kk : Int) == 0) = false := by simpa using hk0
  have hk2 : (kk == 0) = false := by simpa using hk0
  have hk3 : (0 : Int) < (kk : Int) := by omega
  have hk4 : 0 < kk := by omega
  have hc0 : ∃ y, w10.cell? ⟨gb, 0, none⟩ = some (.int .i64 y) := by
    match hL : m.L, hob10 with
    | [], _ => rw [hL] at hkk; simp at hkk; omega
    | a :: tl, h => exact ⟨a, (own_v.1 h).cell 0 _ rfl⟩
  obtain ⟨y, hc0⟩ := hc0
  have hcf : w10.frozen? ⟨gb, 0, none⟩ = false := by
    obtain ⟨cur, h1, -⟩ := hob10
    exact frozen_of_row w10 gb 0 cur 3 h1
  obtain ⟨s2, hS2, hsm2, hrg2⟩ := hx10.out.poke HSm.out.1 HSm.out.2 hob10 1056964608 (by decide)
  obtain ⟨B2, er2, hA2⟩ := ans_of hsm2 hrg2
  obtain ⟨w11, hw11⟩ : ∃ w11, w10.setCell ⟨gb, 0, none⟩ (.int .i64 1056964608) = w11 := ⟨_, rfl⟩
  have hkp11 := HKp.out.poke hob10 (by omega) (.int .i64 1056964608)
  have ks11 : KX (fun b => b = gb) w10 w11 := by rw [← hw11]; exact ((Grw.refl gb w10).setCell _ _).kx
  have hbx11 := HBx10.out.kx ks11 (by omega)
  rw [hw11] at hS2 hkp11
  have HS2 := hid hS2
  have HKp11 := hid hkp11
  have HA2 := hid hA2
  have HKw11 := hid (show KX (fun b => b = K) w w11 from (((HKw10.out.mono (Y := fun b => b = K ∨ b = gb) fun b hb => .inl hb).trans (ks11.mono fun b hb => .inr hb)).shrink fun i hi hx => hx.resolve_right (by have := HM.out; omega)))
  have HBx11 := hid hbx11
  obtain ⟨z0, z1, z2, z3, z4, z5, z6⟩ : _ ∧ _ ∧ _ ∧ _ ∧ _ ∧ _ ∧ _ := ⟨hbx11.c 0 _ rfl, hbx11.c 1 _ rfl, hbx11.c 2 _ rfl, hbx11.c 3 _ rfl, hbx11.c 4 _ rfl, hbx11.c 5 _ rfl, hbx11.c 6 _ rfl⟩
  clear hV hO hob hob10 hO10 hm hS2 hA2 hkp11 ks11 hbx11 hsm2 hrg2 g3
  go_wp2_with (first | (at_builtin; refine wpList_append_run rfl _ _ _ rfl _ _ rfl rfl _ _ (HR1.out _) ?_; clear HR1) | (at_builtin; refine wpList_append_run rfl _ _ _ rfl _ _ rfl rfl _ _ (HR2.out _) ?_; clear HR2))
  (try rw [hw11])
  go_at_call 11
  refine (HA2.out.w _ w11 HS2.out).mono ?_
  rintro e w12 ⟨k12, bv2, rfl, hbv2, -⟩
  have K12 := hid k12
  have HB12 := hid hbv2
  have hbx12 := HBx11.out.kept k12
  clear z0 z1 z2 z3 z4 z5 z6 hw11 k12 hbv2
  obtain ⟨z0, z1, z2, z3, z4, z5, z6⟩ : _ ∧ _ ∧ _ ∧ _ ∧ _ ∧ _ ∧ _ := ⟨hbx12.c 0 _ rfl, hbx12.c 1 _ rfl, hbx12.c 2 _ rfl, hbx12.c 3 _ rfl, hbx12.c 4 _ rfl, hbx12.c 5 _ rfl, hbx12.c 6 _ rfl⟩
  clear hbx12
  go_wp2_with fail
  go_at_call 17
  refine (HA2.out.r _ w12 (HS2.out.kept K12.out)).mono ?_
  rintro e w13 ⟨k13, cv2, rfl, hcv2, -⟩
  have K13 := hid (K12.out.trans k13)
  have sb2 := bn_str (HB12.out.kept k13).bn HA2.out.byt
  have sc2 := bn_str hcv2 HA2.out.byt
  have heq2 : ∀ (S : ByteArray) (u : World), (binOp .eql 9 (.string S) (.string S)).run Try.prog u = .ok (.bool true) u := fun S u => by
    rw [binOp_string_eql]
    simp [Sem.run_pure]
  clear z0 z1 z2 z3 z4 z5 z6 k13 hcv2
  generalize SB B2 = S2 at *
  go_wp2_with fail
  go_ret
  exact ⟨rfl, HKw11.out.trans (K13.out.kx _), by rw [HM.out]; exact HKp11.out.kx K13.out⟩
end Go.Proofs.Ytphkdkenopkbbaa

namespace Go.Proofs.Ytphkdkenopkbbaa
open Go.ChangeShapes Go.WideShapes Go.ChangeAt Go.RowKit
set_option linter.unusedVariables false
set_option linter.unusedSimpArgs false

theorem zeroCells_u8 (n : Nat) : Builtin.zeroCells (Value.int .u8 0).cells n = (List.replicate n (Value.int .u8 0)).toArray := by
  apply Array.ext
  · simp [size_zeroCells, Value.cells]
  · intro i h1 h2
    simp [Builtin.zeroCells, Value.cells, Nat.mod_one]
theorem int3u : Try.prog.underlying 3 = some (.int .i64) := by kernel_rfl
theorem bzeros_grow (w : World) (ty : TypeId) (base : Option Addr) (sLen sCap n : Nat) (olds : List Value) (hold : (Builtin.firstCells 1 sLen (.slice base sLen sCap)).run Try.prog w.drew = .ok olds.toArray w.drew) (hn : 0 < n) (hs : sLen + n < 100000000) (hg : sCap < sLen + n) :
    (Builtin.append_ #[35, 3] ty #[.slice base sLen sCap, .int .i64 (n : Int)]).run Try.prog w = .ok (.slice (some ⟨w.heap.size, 0, none⟩) (sLen + n) (grownCap w (sLen + n) sCap 5)) (w.drew.alloc (.cells ((olds ++ List.replicate n (Value.int .u8 0)).toArray ++ Builtin.zeroCells (Value.int .u8 0).cells (grownCap w (sLen + n) sCap 5 - (sLen + n))) 5)) := by
  obtain ⟨i, hi, hz, hsz, hb⟩ := info_parts (lb_info)
  have hw1 : IntKind.i64.wrap (n : Int) = (n : Int) := by rw [wrap_i64]; omega
  have e0 : ¬ ((n : Int) < 0) := by omega
  have e1 : ¬ (281474976710656 < (n : Int) * 1) := by omega
  have e1' : ¬ (281474976710656 < (n : Int)) := by omega
  have e2 : n ≠ 0 := by omega
  have hn' : ¬ (sLen + n ≤ sCap) := by omega
  have h63 : ¬ (9223372036854775807 < ((sLen : Int) + (n : Int))) := by omega
  have hgf : Builtin.nextslicecap (sLen + n) sCap * 1 ≤ 281474976710656 := growslice_fits hg (by omega)
  have h48 : ¬ (281474976710656 < Builtin.nextslicecap (sLen + n) sCap * 1) := by omega
  have h48' : ¬ (281474976710656 < Builtin.nextslicecap (sLen + n) sCap) := by omega
  simp [Builtin.append_, run_underlying lb_under, run_underlying int3u, sizeOf, typeInfo, hi, hsz, hb, hz, asInt, asIntOf, hw1, e0, e1, e1', e2, zeroValue, hn', h63, h48, h48', zeroCells_u8, Question.forced, hold, newRow, grownCap]
  refine congrArg (fun c => World.alloc _ (Obj.cells c 5)) ?_
  apply Array.ext'
  simp only [Array.toList_append, Array.toList_replicate, List.append_assoc, List.replicate_append_replicate]
/-- Bytes that were answered, grown: a new row. -/
theorem zgrow_b (w : World) (bv : Value) (B : List Int) (h : ExB w bv B) (hB : B.length ≤ 14000000) (n : Nat) (hn : 0 < n) (hn2 : n ≤ 1000) :
    ∃ C w', (∀ ty, (Builtin.append_ #[35, 3] ty #[bv, .int .i64 (n : Int)]).run Try.prog w = .ok (.slice (some ⟨w.heap.size, 0, none⟩) (B.length + n) C) w') ∧ Kept w w' ∧ (∃ x, w'.cell? ⟨w.heap.size, B.length + n - 1, none⟩ = some x) ∧ w'.frozen? ⟨w.heap.size, B.length + n - 1, none⟩ = false := by
  have key : ∀ (base : Option Addr) (olds : List Value), olds.length = B.length → bv = .slice base B.length B.length → (Builtin.firstCells 1 B.length (.slice base B.length B.length)).run Try.prog w.drew = .ok olds.toArray w.drew → ∃ C w', (∀ ty, (Builtin.append_ #[35, 3] ty #[bv, .int .i64 (n : Int)]).run Try.prog w = .ok (.slice (some ⟨w.heap.size, 0, none⟩) (B.length + n) C) w') ∧ Kept w w' ∧ (∃ x, w'.cell? ⟨w.heap.size, B.length + n - 1, none⟩ = some x) ∧ w'.frozen? ⟨w.heap.size, B.length + n - 1, none⟩ = false := fun base olds hl e hf => by
    subst e
    refine ⟨_, _, fun ty => bzeros_grow w ty base B.length B.length n olds hf hn (by omega) (by omega), (Kept.refl w).drew.alloc _ _, ?_, ?_⟩
    · rw [show w.heap.size = w.drew.heap.size from rfl, cell_of_row _ w.drew.heap.size _ _ 5 (0, 0) (heap_alloc_new w.drew _)]
      refine ⟨_, Array.getElem?_eq_getElem ?_⟩
      simp [hl]
      omega
    · exact frozen_of_row _ w.drew.heap.size _ _ 5 (heap_alloc_new w.drew _)
  rcases h with ⟨rfl, rfl⟩ | ⟨g, rfl, h0, hO⟩
  · exact key none [] rfl rfl (by simpa using run_firstCells_none (P := Try.prog) w.drew 1 0 0 0)
  · exact key (some ⟨g, 0, none⟩) (B.map (Value.int .u8)) (List.length_map ..) rfl (run_firstCells_some (P := Try.prog) w.drew 1 B.length ⟨g, 0, none⟩ B.length B.length (B.map (Value.int .u8)) (by rw [List.length_map, Nat.mul_one]) (fun j u hu => by rw [Addr.add_lit, Nat.zero_add]; exact hO.cell j u hu))
theorem ExB.notS {u : World} {bv : Value} {B : List Int} (h : ExB u bv B) {R C sz : Nat} {e : TypeId} (he : e ≠ 5) {V : List Value} (hO : OwnS u R C sz e V) : ¬ blk bv R := by
  rintro ⟨n, c2, e2⟩
  rcases h with ⟨-, e3⟩ | ⟨g, e3, -, cur, h1, -⟩
  · rw [e2] at e3; cases e3
  · rw [e2] at e3; cases e3
    obtain ⟨cur2, h2, -⟩ := hO
    rw [h1] at h2
    simp at h2
    exact he h2.2.symm
/-- One list of bytes is kept: its bytes may have changed. -/
structure Qb (u : World) (bv : Value) (n : Nat) (wr : World) (V : List Int) : Prop where
  kx : KX (blk bv) u wr
  ex : ExB wr bv V
  len : V.length = n
theorem Qb.kept {u : World} {bv : Value} {n : Nat} {wr w' : World} {V : List Int} (h : Qb u bv n wr V) (k : Kept wr w') : Qb u bv n w' V := ⟨h.kx.trans (k.kx _), h.ex.kept k, h.len⟩
theorem Qb.cell {u : World} {bv : Value} {n : Nat} {wr : World} {V : List Int} (h : Qb u bv n wr V) {j : Nat} (hj : j < n) : ∃ g, bv = .slice (some ⟨g, 0, none⟩) n n ∧ wr.cell? ⟨g, j, none⟩ = some (.int .u8 (V.getD j 0)) ∧ wr.frozen? ⟨g, j, none⟩ = false ∧ ∀ x, Qb u bv n (wr.setCell ⟨g, j, none⟩ (.int .u8 x)) (V.set j x) := by
  have hl := h.len
  rcases h.ex with ⟨rfl, -⟩ | ⟨g, e, h0, hO⟩
  · simp at hl; omega
  · rw [hl] at e hO
    refine ⟨g, e, hO.cell j _ ?_, hO.free _, fun x => ⟨h.kx.trans ?_, .inr ⟨g, by rw [List.length_set, hl]; exact e, by rw [List.length_set]; omega, ?_⟩, by rw [List.length_set]; exact hl⟩⟩
    · rw [List.getElem?_map, List.getElem?_eq_getElem (by omega), List.getD_eq_getElem?_getD, List.getElem?_eq_getElem (by omega)]
      rfl
    · exact ((Grw.refl g wr).setCell j _).kx.mono fun b hb => by subst hb; exact ⟨_, _, e⟩
    · rw [List.length_set, hl, List.map_set]
      exact hO.set j _

set_option maxHeartbeats 16000000 in
set_option maxRecDepth 100000 in
theorem bytes_any (K R C : Nat) (rv2 rv3 rv4 : Value) (bv : Value) (B : List Int) (hB : B.length ≤ 14000000) (u : World) (hk : Bk u K [.slice (some ⟨R, 0, none⟩) 1 C, rv2, rv3, rv4]) (hR : OwnS u R C 1 35 [bv]) (hb : ExB u bv B) (hnK : ¬ blk bv K) :
    Calls Try.prog 19 #[.pointer (some ⟨K, 0, none⟩)] u fun e w' => e = .returned (.bool true) ∧ KX (blk bv) u w' := by
  obtain ⟨n, hn⟩ : ∃ n, B.length = n := ⟨_, rfl⟩
  rw [hn] at hB
  have hnR := hb.notS (by decide) hR
  obtain ⟨ao, cb, ebv⟩ := hb.bn.form
  have eC : cb = n := by
    rcases hb with ⟨h1, h2⟩ | ⟨g, h2, -⟩
    · rw [h2] at ebv; injection ebv with _ _ e3; rw [← e3, ← hn, h1]; rfl
    · rw [h2] at ebv; injection ebv with _ _ e3; rw [← e3, hn]
  rw [hn, eC] at ebv
  clear eC
  have HC : Hid (∀ wr V, Qb u bv n wr V → wr.cell? ⟨K, 0, none⟩ = some (.slice (some ⟨R, 0, none⟩) 1 C) ∧ wr.cell? ⟨R, 0, none⟩ = some bv) := fun wr V q => ⟨(hk.kx q.kx hnK).c 0 _ rfl, (hR.on (q.kx.block R hR.lt hnR)).cell 0 _ rfl⟩
  have HQ : Hid (∀ wr V (m : Nat), Qb u bv n wr V → 0 < m → m ≤ 1000 → ∃ C w', (∀ ty, (Builtin.append_ #[35, 3] ty #[bv, .int .i64 (m : Int)]).run Try.prog wr = .ok (.slice (some ⟨wr.heap.size, 0, none⟩) (n + m) C) w') ∧ Kept wr w' ∧ (∃ x, w'.cell? ⟨wr.heap.size, n + m - 1, none⟩ = some x) ∧ w'.frozen? ⟨wr.heap.size, n + m - 1, none⟩ = false) := fun wr V m q h1 h2 => by
    have := zgrow_b wr bv V q.ex (by rw [q.len]; exact hB) m h1 h2
    rwa [q.len] at this
  have HCe := hid (fun (wr : World) (V : List Int) (j : Nat) (q : Qb u bv n wr V) (hj : j < n) => q.cell hj)
  have HB := hid hB
  have HQ0 : Hid (∃ V, Qb u bv n u V) := ⟨B, (Kept.refl u).kx _, hb, hn⟩
  have HKe := hid (fun (wr w' : World) (V : List Int) (q : Qb u bv n wr V) (k : Kept wr w') => q.kept k)
  have HKx := hid (fun (wr : World) (V : List Int) (q : Qb u bv n wr V) => q.kx)
  have HLe := hid (fun (wr : World) (V : List Int) (q : Qb u bv n wr V) => q.len)
  obtain ⟨PX, hPX⟩ : ∃ PX : Nat → Prop, PX = blk bv := ⟨_, rfl⟩
  rw [← hPX] at HKx ⊢
  clear hk hR hb hnK hnR hB hn hPX
  obtain ⟨V0, q0⟩ := HQ0.out
  have Q0 := hid q0
  clear q0 HQ0
  subst ebv
  generalize (Qb u (.slice ao n n) n) = Q at *
  obtain ⟨cK, cR⟩ := HC.out u V0 Q0.out
  go_enter Try.func19, Try.ntmps19
  go_wp2_with fail
  go_loopw [3] (fun rv wr => ∃ (r : Int) (V : List Int), (r = 0 ∨ r = 1 ∨ r = 2 ∨ r = 3) ∧ rv = .int .i64 r ∧ Q wr V ∧ (1 ≤ r → ∀ x, x < n → V.getD x 0 = 0)) (fun rv _ => 3 - (intOf rv).toNat)
  case atStart => exact ⟨0, V0, .inl rfl, rfl, Q0.out, fun h => by omega⟩
  case round =>
    clear cK cR
    obtain ⟨r, V, hr, rfl, hq, hz⟩ := hrel
    have HQr := hid hq
    have HZr := hid hz
    obtain ⟨cK, cR⟩ := HC.out _ _ hq
    rcases hr with rfl | rfl | rfl | rfl
    · skip
      clear hq hz
      go_wp2_with fail
      go_loopw [4] (fun iv wr => ∃ (i : Int) (V : List Int), (i = 0 ∨ i = 1) ∧ iv = .int .i64 i ∧ Q wr V ∧ (i = 1 → ∀ x, x < n → V.getD x 0 = 0)) (fun iv _ => 1 - (intOf iv).toNat)
      case atStart => exact ⟨0, V, .inl rfl, rfl, HQr.out, fun h => by omega⟩
      case round =>
        clear cK cR HQr HZr
        obtain ⟨i, V, hi, rfl, hq, hz⟩ := hrel
        have HQi := hid hq
        have HZi := hid hz
        obtain ⟨cK, cR⟩ := HC.out _ _ hq
        rcases hi with rfl | rfl
        · skip
          clear hq hz
          go_wp2_with fail
          go_loopw [5] (fun jv wr => ∃ (j : Nat) (V : List Int), j ≤ n ∧ jv = .int .i64 (j : Int) ∧ Q wr V ∧ (∀ x, x < j → V.getD x 0 = 0)) (fun jv _ => n - (intOf jv).toNat)
          case atStart => exact ⟨0, V, Nat.zero_le _, rfl, HQi.out, fun x hx => by omega⟩
          case round =>
            clear cK cR HQi HZi
            obtain ⟨j, V, hj, rfl, hq, hz⟩ := hrel
            have HQj := hid hq
            have HZj := hid hz
            obtain ⟨cK, cR⟩ := HC.out _ _ hq
            by_cases hjn : j < n
            · have hbd : (0 : Int) ≤ (j : Int) ∧ (j : Int) < (n : Int) := by omega
              have hbd2 : (j : Int) < (n : Int) := by omega
              have z2 : IntKind.i64.wrap ((j : Int) + 1) = (j : Int) + 1 := by have := HB.out; rw [wrap_i64]; omega
              obtain ⟨g, ebv, e0, ef, hset⟩ := HCe.out _ _ j hq hjn
              obtain ⟨rfl⟩ : ao = some ⟨g, 0, none⟩ := by injection ebv
              have HSt := hid (hset 0)
              have HZ2 : Hid (∀ x, x < j + 1 → (V.set j 0).getD x 0 = 0) := fun x hx => by
                rw [List.getD_eq_getElem?_getD, List.getElem?_set]
                by_cases hxj : j = x
                · subst hxj
                  rw [if_pos rfl]
                  split <;> rfl
                · rw [if_neg hxj, ← List.getD_eq_getElem?_getD]
                  exact HZj.out x (by omega)
              have HII := hid hjn
              clear hq hz hj hjn hset ebv
              go_wp2_with fail
              go_roundw
              case rel => exact ⟨j + 1, _, by have := HII.out; omega, by go_num, HSt.out, HZ2.out⟩
              case measure => have := HII.out; simp [intOf]; omega
            · obtain rfl : j = n := by omega
              clear hq hz hj hjn
              go_wp2_with fail
              go_loopw [6] (fun gv wr => gv = .int .i64 1 ∧ Q wr V) (fun gv _ => 0)
              case atStart => exact ⟨rfl, HQj.out⟩
              case round =>
                obtain ⟨rfl, hq⟩ := hrel
                clear cK cR
                obtain ⟨cK, cR⟩ := HC.out _ _ hq
                have HQg := hid hq
                clear hq
                go_wp2_with fail
                go_roundw
                case rel => exact ⟨1, V, .inr rfl, rfl, HQg.out, fun _ x hx => HZj.out x hx⟩
                case measure => simp [intOf]
        · skip
          clear hq hz
          go_wp2_with fail
          go_roundw
          case rel => exact ⟨1, V, by omega, rfl, HQi.out, fun _ => HZi.out rfl⟩
          case measure => simp [intOf]
    · skip
      clear hq hz
      go_wp2_with fail
      go_loopw [4] (fun iv wr => ∃ (i : Int) (V : List Int), (i = 0 ∨ i = 1) ∧ iv = .int .i64 i ∧ Q wr V ∧ (∀ x, x < n → V.getD x 0 = 0)) (fun iv _ => 1 - (intOf iv).toNat)
      case atStart => exact ⟨0, V, .inl rfl, rfl, HQr.out, HZr.out (by decide)⟩
      case round =>
        clear cK cR HQr HZr
        obtain ⟨i, V, hi, rfl, hq, hz⟩ := hrel
        have HQi := hid hq
        have HZi := hid hz
        obtain ⟨cK, cR⟩ := HC.out _ _ hq
        rcases hi with rfl | rfl
        · skip
          clear hq hz
          go_wp2_with fail
          go_loopw [5] (fun jv wr => ∃ (j : Nat) (V : List Int), j ≤ n ∧ jv = .int .i64 (j : Int) ∧ Q wr V ∧ (∀ x, x < n → V.getD x 0 = 0)) (fun jv _ => n - (intOf jv).toNat)
          case atStart => exact ⟨0, V, Nat.zero_le _, rfl, HQi.out, HZi.out⟩
          case round =>
            clear cK cR HQi HZi
            obtain ⟨j, V, hj, rfl, hq, hz⟩ := hrel
            have HQj := hid hq
            have HZj := hid hz
            obtain ⟨cK, cR⟩ := HC.out _ _ hq
            by_cases hjn : j < n
            · have hbd : (0 : Int) ≤ (j : Int) ∧ (j : Int) < (n : Int) := by omega
              have hbd2 : (j : Int) < (n : Int) := by omega
              have z2 : IntKind.i64.wrap ((j : Int) + 1) = (j : Int) + 1 := by have := HB.out; rw [wrap_i64]; omega
              obtain ⟨g, ebv, e0, ef, hset⟩ := HCe.out _ _ j hq hjn
              obtain ⟨rfl⟩ : ao = some ⟨g, 0, none⟩ := by injection ebv
              rw [HZj.out j hjn] at e0
              have HII := hid hjn
              clear hq hz hj hjn hset ebv
              go_wp2_with fail
              go_roundw
              case rel => exact ⟨j + 1, _, by have := HII.out; omega, by go_num, HQj.out, HZj.out⟩
              case measure => have := HII.out; simp [intOf]; omega
            · obtain rfl : j = n := by omega
              clear hq hz hj hjn
              go_wp2_with fail
              go_loopw [6] (fun gv wr => ∃ q : Nat, 1 ≤ q ∧ q ≤ 18 ∧ gv = .int .i64 (q : Int) ∧ Q wr V) (fun gv _ => 18 - (intOf gv).toNat)
              case atStart => exact ⟨1, Nat.le_refl _, by decide, rfl, HQj.out⟩
              case round =>
                obtain ⟨q, hq1, hq2, rfl, hq⟩ := hrel
                clear cK cR
                obtain ⟨cK, cR⟩ := HC.out _ _ hq
                have HQg := hid hq
                by_cases hq17 : q ≤ 17
                · obtain ⟨m, hm⟩ : ∃ m, q + q / 17 * 80 = m := ⟨_, rfl⟩
                  have hm1 : 0 < m ∧ m ≤ 1000 := by omega
                  have d1 : decide ((q : Int) ≤ 17) = true := decide_eq_true (by omega)
                  have d2 : decide (q ≤ 17) = true := decide_eq_true hq17
                  obtain ⟨d, hd⟩ : ∃ d : Int, Int.tdiv (q : Int) 17 = d := ⟨_, rfl⟩
                  have hd2 : d = ((q / 17 : Nat) : Int) := by rw [← hd, Int.tdiv_eq_ediv_of_nonneg (by omega)]; omega
                  have t2 : IntKind.i64.wrap (d * 80) = d * 80 := by rw [wrap_i64]; omega
                  have t3 : IntKind.i64.wrap ((q : Int) + d * 80) = (m : Int) := by rw [wrap_i64]; omega
                  have t0 : IntKind.i64.wrap d = d := by rw [wrap_i64]; omega
                  have hall : wrap64 ((q : Int) + wrap64 (wrap64 d * 80)) = (m : Int) := by
                    unfold wrap64
                    omega
                  clear hd2
                  have z2 : IntKind.i64.wrap ((q : Int) + 1) = (q : Int) + 1 := by rw [wrap_i64]; omega
                  obtain ⟨C2, w6, hrun, k6, ⟨x, hx⟩, hf⟩ := HQ.out _ _ m hq hm1.1 hm1.2
                  obtain ⟨g2, hg2⟩ : ∃ g2, wr.heap.size = g2 := ⟨_, rfl⟩
                  rw [hg2] at hrun hx hf
                  obtain ⟨p, hp⟩ : ∃ p, j + m - 1 = p := ⟨_, rfl⟩
                  rw [hp] at hx hf
                  have hB2 := HB.out
                  have t4 : IntKind.i64.wrap (((j + m : Nat) : Int) - 1) = (p : Int) := by rw [wrap_i64]; omega
                  have t5 : IntKind.i64.wrap ((j : Int) + (m : Int) - 1) = (p : Int) := by rw [wrap_i64]; omega
                  have t6 : (0 : Int) ≤ (p : Int) ∧ (p : Int) < ((j + m : Nat) : Int) := by omega
                  have t7 : (p : Int) < (j : Int) + (m : Int) := by omega
                  rw [← hall] at hrun
                  have HRun := hid hrun
                  clear t0 t2 t3 hall
                  have HQ6 := hid (HKe.out _ _ _ (HKe.out _ _ _ hq k6) (show Kept w6 w6 from Kept.refl _))
                  have HQ7 := hid (show Q (w6.setCell ⟨g2, p, none⟩ (.int .u8 254)) V from HKe.out _ _ _ hq (kept_of_kx k6 ((Grw.refl g2 w6).setCell p _).kx (fun b hb => by omega)))
                  have HII := hid (show q ≤ 17 from hq17)
                  clear hq hrun k6 hq17 hm hm1 hp hB2 hg2
                  go_wp2_with (first | (at_builtin; refine wpList_append_run2 rfl _ _ _ _ rfl _ _ rfl rfl _ _ (HRun.out _) ?_; clear HRun))
                  go_roundw
                  case rel => exact ⟨q + 1, by omega, by have := HII.out; omega, by go_num, HQ7.out⟩
                  case measure => have := HII.out; simp [intOf]; omega
                · have d1 : decide ((q : Int) ≤ 17) = false := decide_eq_false (by omega)
                  have d2 : decide (q ≤ 17) = false := decide_eq_false hq17
                  clear hq hq17
                  go_wp2_with fail
                  go_roundw
                  case rel => exact ⟨1, V, .inr rfl, rfl, HQg.out, HZj.out⟩
                  case measure => simp [intOf]
        · skip
          clear hq hz
          go_wp2_with fail
          go_roundw
          case rel => exact ⟨2, V, by omega, rfl, HQi.out, fun _ => HZi.out⟩
          case measure => simp [intOf]
    · skip
      clear hq hz
      go_wp2_with fail
      go_loopw [4] (fun iv wr => ∃ (i : Int) (V : List Int), (i = 0 ∨ i = 1) ∧ iv = .int .i64 i ∧ Q wr V ∧ (∀ x, x < n → V.getD x 0 = 0)) (fun iv _ => 1 - (intOf iv).toNat)
      case atStart => exact ⟨0, V, .inl rfl, rfl, HQr.out, HZr.out (by decide)⟩
      case round =>
        clear cK cR HQr HZr
        obtain ⟨i, V, hi, rfl, hq, hz⟩ := hrel
        have HQi := hid hq
        have HZi := hid hz
        obtain ⟨cK, cR⟩ := HC.out _ _ hq
        rcases hi with rfl | rfl
        · skip
          clear hq hz
          go_wp2_with fail
          go_loopw [5] (fun jv wr => ∃ (j : Nat) (V : List Int), j ≤ n ∧ jv = .int .i64 (j : Int) ∧ Q wr V ∧ (∀ x, x < n → V.getD x 0 = 0)) (fun jv _ => n - (intOf jv).toNat)
          case atStart => exact ⟨0, V, Nat.zero_le _, rfl, HQi.out, HZi.out⟩
          case round =>
            clear cK cR HQi HZi
            obtain ⟨j, V, hj, rfl, hq, hz⟩ := hrel
            have HQj := hid hq
            have HZj := hid hz
            obtain ⟨cK, cR⟩ := HC.out _ _ hq
            by_cases hjn : j < n
            · have hbd : (0 : Int) ≤ (j : Int) ∧ (j : Int) < (n : Int) := by omega
              have hbd2 : (j : Int) < (n : Int) := by omega
              have z2 : IntKind.i64.wrap ((j : Int) + 1) = (j : Int) + 1 := by have := HB.out; rw [wrap_i64]; omega
              obtain ⟨g, ebv, e0, ef, hset⟩ := HCe.out _ _ j hq hjn
              obtain ⟨rfl⟩ : ao = some ⟨g, 0, none⟩ := by injection ebv
              rw [HZj.out j hjn] at e0
              have HII := hid hjn
              clear hq hz hj hjn hset ebv
              go_wp2_with fail
              go_roundw
              case rel => exact ⟨j + 1, _, by have := HII.out; omega, by go_num, HQj.out, HZj.out⟩
              case measure => have := HII.out; simp [intOf]; omega
            · obtain rfl : j = n := by omega
              clear hq hz hj hjn
              go_wp2_with fail
              go_loopw [6] (fun gv wr => gv = .int .i64 1 ∧ Q wr V) (fun gv _ => 0)
              case atStart => exact ⟨rfl, HQj.out⟩
              case round =>
                obtain ⟨rfl, hq⟩ := hrel
                clear cK cR
                obtain ⟨cK, cR⟩ := HC.out _ _ hq
                have HQg := hid hq
                clear hq
                go_wp2_with fail
                go_roundw
                case rel => exact ⟨1, V, .inr rfl, rfl, HQg.out, HZj.out⟩
                case measure => simp [intOf]
        · skip
          clear hq hz
          go_wp2_with fail
          go_roundw
          case rel => exact ⟨3, V, by omega, rfl, HQi.out, fun _ => HZi.out⟩
          case measure => simp [intOf]
    · skip
      clear hq hz
      go_wp2_with fail
      go_ret
      exact ⟨rfl, HKx.out _ _ HQr.out⟩
end Go.Proofs.Ytphkdkenopkbbaa

namespace Go.Proofs.Ytphkdkenopkbbaa
open Go.ChangeShapes Go.WideShapes Go.ChangeAt Go.RowKit
set_option linter.unusedVariables false
set_option linter.unusedSimpArgs false

set_option maxHeartbeats 4000000 in
set_option maxRecDepth 100000 in
theorem shapes0 (K : Nat) (r1 r2 : Value) (u : World) (hk : Bk u K [r1, r2, .slice none 0 0, .slice none 0 0]) : Calls Try.prog 39 #[.pointer (some ⟨K, 0, none⟩)] u fun e w' => e = .returned (.bool true) ∧ Kept u w' := by
  have HC := hid (fun (w : World) (k : Kept u w) => (hk.kept k).c 2 _ rfl)
  have c2 := hk.c 2 _ rfl
  clear hk
  go_enter Try.func39, Try.ntmps39
  go_wp2_with fail
  go_loopw [3] (fun iv wr => iv = .int .i64 0 ∧ Kept u wr) (fun iv _ => 0)
  case atStart => exact ⟨rfl, Kept.refl u⟩
  case round =>
    obtain ⟨rfl, kr⟩ := hrel
    clear c2
    have c2 := HC.out _ kr
    go_wp2_with fail
    go_ret
    exact ⟨rfl, kr⟩

set_option maxHeartbeats 8000000 in
set_option maxRecDepth 100000 in
theorem lists0 (K : Nat) (r1 r2 : Value) (u : World) (hk : Bk u K [r1, r2, .slice none 0 0, .slice none 0 0]) : Calls Try.prog 20 #[.pointer (some ⟨K, 0, none⟩)] u fun e w' => e = .returned (.bool true) ∧ Kept u w' := by
  have HC := hid (fun (w : World) (k : Kept u w) => (hk.kept k).c 2 _ rfl)
  have HSh := hid (fun (w : World) (k : Kept u w) => shapes0 K r1 r2 w (hk.kept k))
  have c2 := hk.c 2 _ rfl
  clear hk
  go_enter Try.func20, Try.ntmps20
  go_wp2_with fail
  go_loopw [3, 4] (fun lv iv wr => lv = .slice none 0 0 ∧ iv = .int .i64 0 ∧ Kept u wr) (fun _ iv _ => 0)
  case atStart => exact ⟨rfl, rfl, Kept.refl u⟩
  case round =>
    obtain ⟨rfl, rfl, kr⟩ := hrel
    clear c2
    have c2 := HC.out _ kr
    go_wp2_with fail
    go_loopw [7] (fun rv wr => ∃ r : Int, (r = 0 ∨ r = 1 ∨ r = 2 ∨ r = 3) ∧ rv = .int .i64 r ∧ Kept u wr) (fun rv _ => 3 - (intOf rv).toNat)
    case atStart => exact ⟨0, .inl rfl, rfl, kr⟩
    case round =>
      clear c2 kr
      obtain ⟨r, hr, rfl, kr⟩ := hrel
      have c2 := HC.out _ kr
      have KR := hid kr
      rcases hr with rfl | rfl | rfl | rfl
      · skip
        go_wp2_with fail
        go_loopw [8] (fun iv wr => iv = .int .i64 0 ∧ Kept u wr) (fun iv _ => 0)
        case atStart => exact ⟨rfl, KR.out⟩
        case round =>
          clear c2 KR kr
          obtain ⟨rfl, kr⟩ := hrel
          have c2 := HC.out _ kr
          go_wp2_with fail
          go_loopw [12] (fun iv wr => iv = .int .i64 0 ∧ Kept u wr) (fun iv _ => 0)
          case atStart => exact ⟨rfl, kr⟩
          case round =>
            clear c2 kr
            obtain ⟨rfl, kr⟩ := hrel
            have c2 := HC.out _ kr
            go_wp2_with fail
            go_roundw
            case rel => exact ⟨1, by omega, rfl, kr⟩
            case measure => simp [intOf]
      · skip
        go_wp2_with fail
        go_loopw [8] (fun iv wr => iv = .int .i64 0 ∧ Kept u wr) (fun iv _ => 0)
        case atStart => exact ⟨rfl, KR.out⟩
        case round =>
          clear c2 KR kr
          obtain ⟨rfl, kr⟩ := hrel
          have c2 := HC.out _ kr
          go_wp2_with fail
          go_loopw [12] (fun iv wr => iv = .int .i64 0 ∧ Kept u wr) (fun iv _ => 0)
          case atStart => exact ⟨rfl, kr⟩
          case round =>
            clear c2 kr
            obtain ⟨rfl, kr⟩ := hrel
            have c2 := HC.out _ kr
            go_wp2_with fail
            go_roundw
            case rel => exact ⟨2, by omega, rfl, kr⟩
            case measure => simp [intOf]
      · skip
        go_wp2_with fail
        go_loopw [8] (fun iv wr => iv = .int .i64 0 ∧ Kept u wr) (fun iv _ => 0)
        case atStart => exact ⟨rfl, KR.out⟩
        case round =>
          clear c2 KR kr
          obtain ⟨rfl, kr⟩ := hrel
          have c2 := HC.out _ kr
          go_wp2_with fail
          go_loopw [12] (fun iv wr => iv = .int .i64 0 ∧ Kept u wr) (fun iv _ => 0)
          case atStart => exact ⟨rfl, kr⟩
          case round =>
            clear c2 kr
            obtain ⟨rfl, kr⟩ := hrel
            have c2 := HC.out _ kr
            go_wp2_with fail
            go_roundw
            case rel => exact ⟨3, by omega, rfl, kr⟩
            case measure => simp [intOf]
      · skip
        go_wp2_with fail
        go_at_call 39
        refine (HSh.out _ kr).mono ?_
        rintro e w5 ⟨rfl, k5⟩
        go_wp2_with fail
        go_ret
        exact ⟨rfl, KR.out.trans k5⟩

set_option maxHeartbeats 8000000 in
set_option maxRecDepth 100000 in
theorem bytes0 (K : Nat) (r2 r3 r4 : Value) (u : World) (hk : Bk u K [.slice none 0 0, r2, r3, r4]) : Calls Try.prog 19 #[.pointer (some ⟨K, 0, none⟩)] u fun e w' => e = .returned (.bool true) ∧ Kept u w' := by
  have HC := hid (fun (w : World) (k : Kept u w) => (hk.kept k).c 0 _ rfl)
  have c2 := hk.c 0 _ rfl
  clear hk
  go_enter Try.func19, Try.ntmps19
  go_wp2_with fail
  go_loopw [3] (fun rv wr => ∃ r : Int, (r = 0 ∨ r = 1 ∨ r = 2 ∨ r = 3) ∧ rv = .int .i64 r ∧ Kept u wr) (fun rv _ => 3 - (intOf rv).toNat)
  case atStart => exact ⟨0, .inl rfl, rfl, Kept.refl u⟩
  case round =>
    clear c2
    obtain ⟨r, hr, rfl, kr⟩ := hrel
    have c2 := HC.out _ kr
    rcases hr with rfl | rfl | rfl | rfl
    · skip
      have KR := hid kr
      go_wp2_with fail
      go_loopw [4] (fun iv wr => iv = .int .i64 0 ∧ Kept u wr) (fun iv _ => 0)
      case atStart => exact ⟨rfl, KR.out⟩
      case round =>
        clear c2 KR kr
        obtain ⟨rfl, kr⟩ := hrel
        have c2 := HC.out _ kr
        go_wp2_with fail
        go_roundw
        case rel => exact ⟨1, by omega, rfl, kr⟩
        case measure => simp [intOf]
    · skip
      have KR := hid kr
      go_wp2_with fail
      go_loopw [4] (fun iv wr => iv = .int .i64 0 ∧ Kept u wr) (fun iv _ => 0)
      case atStart => exact ⟨rfl, KR.out⟩
      case round =>
        clear c2 KR kr
        obtain ⟨rfl, kr⟩ := hrel
        have c2 := HC.out _ kr
        go_wp2_with fail
        go_roundw
        case rel => exact ⟨2, by omega, rfl, kr⟩
        case measure => simp [intOf]
    · skip
      have KR := hid kr
      go_wp2_with fail
      go_loopw [4] (fun iv wr => iv = .int .i64 0 ∧ Kept u wr) (fun iv _ => 0)
      case atStart => exact ⟨rfl, KR.out⟩
      case round =>
        clear c2 KR kr
        obtain ⟨rfl, kr⟩ := hrel
        have c2 := HC.out _ kr
        go_wp2_with fail
        go_roundw
        case rel => exact ⟨3, by omega, rfl, kr⟩
        case measure => simp [intOf]
    · skip
      go_wp2_with fail
      go_ret
      exact ⟨rfl, kr⟩

set_option maxHeartbeats 8000000 in
set_option maxRecDepth 100000 in
theorem apart0 (K : Nat) (u : World) (hk : Bk u K [.slice none 0 0, .slice none 0 0, .slice none 0 0, .slice none 0 0]) : Calls Try.prog 9 #[.pointer (some ⟨K, 0, none⟩)] u fun e w' => e = .returned (.bool true) ∧ Kept u w' := by
  have HC := hid (fun (w : World) (k : Kept u w) => (show w.cell? ⟨K, 0, none⟩ = some (.slice none 0 0) ∧ w.cell? ⟨K, 2, none⟩ = some (.slice none 0 0) from ⟨(hk.kept k).c 0 _ rfl, (hk.kept k).c 2 _ rfl⟩))
  have HBy := hid (fun (w : World) (k : Kept u w) => bytes0 K _ _ _ w (hk.kept k))
  have HLi := hid (fun (w : World) (k : Kept u w) => lists0 K _ _ w (hk.kept k))
  obtain ⟨c0, c2⟩ := HC.out u (Kept.refl u)
  clear hk
  go_enter Try.func9, Try.ntmps9
  go_wp2_with fail
  go_loopw [3] (fun iv wr => iv = .int .i64 0 ∧ Kept u wr) (fun iv _ => 0)
  case atStart => exact ⟨rfl, Kept.refl u⟩
  case round =>
    obtain ⟨rfl, kr⟩ := hrel
    clear c0 c2
    obtain ⟨c0, c2⟩ := HC.out _ kr
    go_wp2_with fail
    go_loopw [4] (fun iv wr => iv = .int .i64 0 ∧ Kept u wr) (fun iv _ => 0)
    case atStart => exact ⟨rfl, kr⟩
    case round =>
      clear c0 c2 kr
      obtain ⟨rfl, kr⟩ := hrel
      obtain ⟨c0, c2⟩ := HC.out _ kr
      go_wp2_with fail
      go_at_call 19
      refine (HBy.out _ kr).mono ?_
      rintro e w5 ⟨rfl, k5⟩
      have K5 := hid (kr.trans k5)
      clear k5 c0 c2
      go_wp2_with fail
      go_at_call 20
      refine (HLi.out _ K5.out).mono ?_
      rintro e w6 ⟨rfl, k6⟩
      go_wp2_with fail
      go_ret
      exact ⟨rfl, K5.out.trans k6⟩

set_option maxHeartbeats 8000000 in
set_option maxRecDepth 100000 in
theorem apartW (K H : Nat) (u : World) (h : KpW K H u) (hKH : K < H) : Calls Try.prog 9 #[.pointer (some ⟨K, 0, none⟩)] u fun e w' => e = .returned (.bool true) ∧ KX (fun b => H ≤ b) u w' := by
  obtain ⟨B, bv, cv, R1, C1, R2, C2, hby, hlen, hk, h4, h5, hR1, h7, h8, hR2, hb, hbH, hc⟩ := h
  have hnK : ¬ blk bv K := fun hh => by have := hbH K hh; omega
  have HBy := hid (fun (w : World) (k : Kept u w) => bytes_any K R1 C1 _ _ _ bv B hlen w (hk.kept k) (hR1.kept k) (hb.kept k) hnK)
  have HLi := hid (fun (w w' : World) (k : Kept u w) (kx : KX (blk bv) w w') => lists0 K _ _ w' ((hk.kept k).kx kx hnK))
  have HX := hid hbH
  have HC := hid (fun (w : World) (k : Kept u w) => (show w.cell? ⟨K, 0, none⟩ = some (.slice (some ⟨R1, 0, none⟩) 1 C1) ∧ w.cell? ⟨K, 1, none⟩ = some (.slice (some ⟨R2, 0, none⟩) 1 C2) ∧ w.cell? ⟨R1, 0, none⟩ = some bv ∧ w.cell? ⟨R2, 0, none⟩ = some cv ∧ (convert 35 9 bv).run Try.prog w = .ok (.string (SB B)) w ∧ (convert 35 9 cv).run Try.prog w = .ok (.string (SB B)) w from ⟨(hk.kept k).c 0 _ rfl, (hk.kept k).c 1 _ rfl, (hR1.kept k).cell 0 _ rfl, (hR2.kept k).cell 0 _ rfl, bn_str (hb.kept k).bn hby, bn_str (hc.kept k) hby⟩))
  have HC2 := hid (fun (w : World) (k : Kept u w) => (hk.kept k).c 2 _ rfl)
  have heq : ∀ (S : ByteArray) (u : World), (binOp .neq 9 (.string S) (.string S)).run Try.prog u = .ok (.bool false) u := fun S u => by
    rw [binOp_string_neq]
    simp [Sem.run_pure]
  obtain ⟨ao1, cb1, e1⟩ := hb.bn.form
  obtain ⟨ao2, cb2, e2⟩ := hc.form
  obtain ⟨PX, hPX⟩ : ∃ PX : Nat → Prop, blk bv = PX := ⟨_, rfl⟩
  rw [hPX] at HBy HLi
  have HPX := hid (show ∀ b, PX b → H ≤ b by rw [← hPX]; exact hbH)
  clear hk hR1 hR2 hb hc hnK hbH hPX HX
  subst e1 e2
  generalize SB B = S at *
  generalize B.length = bl at *
  obtain ⟨c0, c1, r1, r2, s1, s2⟩ := HC.out u (Kept.refl u)
  go_enter Try.func9, Try.ntmps9
  go_wp2_with fail
  go_loopw [3] (fun iv wr => ∃ i : Int, (i = 0 ∨ i = 1) ∧ iv = .int .i64 i ∧ Kept u wr) (fun iv _ => 1 - (intOf iv).toNat)
  case atStart => exact ⟨0, .inl rfl, rfl, Kept.refl u⟩
  case round =>
    clear c0 c1 r1 r2 s1 s2
    obtain ⟨i, hi, rfl, kr⟩ := hrel
    have KR := hid kr
    obtain ⟨c0, c1, r1, r2, s1, s2⟩ := HC.out _ kr
    rcases hi with rfl | rfl
    · skip
      have HD := hid (HC.out _ (kr.trans (Kept.refl wr).drew))
      go_wp2_with fail
      refine wp_region_late [] (fun u => u.cell? ⟨K, 0, none⟩ = some (.slice (some ⟨R1, 0, none⟩) 1 C1) ∧ u.cell? ⟨K, 1, none⟩ = some (.slice (some ⟨R2, 0, none⟩) 1 C2) ∧ u.cell? ⟨R1, 0, none⟩ = some (.slice ao1 bl cb1) ∧ u.cell? ⟨R2, 0, none⟩ = some (.slice ao2 bl cb2) ∧ (convert 35 9 (.slice ao1 bl cb1)).run Try.prog u = .ok (.string S) u ∧ (convert 35 9 (.slice ao2 bl cb2)).run Try.prog u = .ok (.string S) u) (by kernel_rfl) (HD.out) (fun hHeld => ?_)
      refine wpAnyD_take (i := 0) (v := ?_) rfl (by kernel_rfl) (by kernel_rfl) (by kernel_rfl) (by kernel_rfl) (fun _ _ _ h => h) (Or.inl ⟨by rfl, ?hya0⟩) hHeld ?_
      case hya0 => (intro w hSw; (try dsimp only at hSw); go_simp; try (with_reducible rfl))
      (try simp only [Act.put, List.getElem_toArray, List.getElem_cons_succ, List.getElem_cons_zero, List.setIfInBounds_toArray, List.set_cons_zero, List.set_cons_succ])
      refine wpAnyD_take (i := 1) (v := ?_) rfl (by kernel_rfl) (by kernel_rfl) (by kernel_rfl) (by kernel_rfl) (fun _ _ _ h => h) (Or.inl ⟨by rfl, ?hya1⟩) hHeld ?_
      case hya1 => (intro w hSw; (try dsimp only at hSw); go_simp; try (with_reducible rfl))
      (try simp only [Act.put, List.getElem_toArray, List.getElem_cons_succ, List.getElem_cons_zero, List.setIfInBounds_toArray, List.set_cons_zero, List.set_cons_succ])
      refine wpAnyD_take (i := 2) (v := ?_) rfl (by kernel_rfl) (by kernel_rfl) (by kernel_rfl) (by kernel_rfl) (fun _ _ _ h => h) (Or.inl ⟨by rfl, ?hya2⟩) hHeld ?_
      case hya2 => (intro w hSw; (try dsimp only at hSw); go_simp; try (with_reducible rfl))
      (try simp only [Act.put, List.getElem_toArray, List.getElem_cons_succ, List.getElem_cons_zero, List.setIfInBounds_toArray, List.set_cons_zero, List.set_cons_succ])
      refine wpAnyD_take (i := 3) (v := ?_) rfl (by kernel_rfl) (by kernel_rfl) (by kernel_rfl) (by kernel_rfl) (fun _ _ _ h => h) (Or.inl ⟨by rfl, ?hya3⟩) hHeld ?_
      case hya3 => (intro w hSw; (try dsimp only at hSw); go_simp; try (with_reducible rfl))
      (try simp only [Act.put, List.getElem_toArray, List.getElem_cons_succ, List.getElem_cons_zero, List.setIfInBounds_toArray, List.set_cons_zero, List.set_cons_succ])
      refine wpAnyD_take (i := 4) (v := ?_) rfl (by kernel_rfl) (by kernel_rfl) (by kernel_rfl) (by kernel_rfl) (fun _ _ _ h => h) (Or.inl ⟨by rfl, ?hya4⟩) hHeld ?_
      case hya4 => (intro w hSw; (try dsimp only at hSw); go_simp; try (with_reducible rfl))
      (try simp only [Act.put, List.getElem_toArray, List.getElem_cons_succ, List.getElem_cons_zero, List.setIfInBounds_toArray, List.set_cons_zero, List.set_cons_succ])
      refine wpAnyD_take (i := 5) (v := ?_) rfl (by kernel_rfl) (by kernel_rfl) (by kernel_rfl) (by kernel_rfl) (fun _ _ _ h => h) (Or.inl ⟨by rfl, ?hya5⟩) hHeld ?_
      case hya5 => (intro w hSw; (try dsimp only at hSw); go_simp; try (with_reducible rfl))
      (try simp only [Act.put, List.getElem_toArray, List.getElem_cons_succ, List.getElem_cons_zero, List.setIfInBounds_toArray, List.set_cons_zero, List.set_cons_succ])
      refine wpAnyD_take (i := 6) (v := ?_) rfl (by kernel_rfl) (by kernel_rfl) (by kernel_rfl) (by kernel_rfl) (fun _ _ _ h => h) (Or.inl ⟨by rfl, ?hya6⟩) hHeld ?_
      case hya6 => (intro w hSw; (try dsimp only at hSw); go_simp; try (with_reducible rfl))
      (try simp only [Act.put, List.getElem_toArray, List.getElem_cons_succ, List.getElem_cons_zero, List.setIfInBounds_toArray, List.set_cons_zero, List.set_cons_succ])
      refine wpAnyD_take (i := 7) (v := ?_) rfl (by kernel_rfl) (by kernel_rfl) (by kernel_rfl) (by kernel_rfl) (fun _ _ _ h => h) (Or.inl ⟨by rfl, ?hya7⟩) hHeld ?_
      case hya7 => (intro w hSw; (try dsimp only at hSw); go_simp; try (with_reducible rfl))
      (try simp only [Act.put, List.getElem_toArray, List.getElem_cons_succ, List.getElem_cons_zero, List.setIfInBounds_toArray, List.set_cons_zero, List.set_cons_succ])
      refine wpAnyD_take (i := 8) (v := ?_) rfl (by kernel_rfl) (by kernel_rfl) (by kernel_rfl) (by kernel_rfl) (fun _ _ _ h => h) (Or.inl ⟨by rfl, ?hya8⟩) hHeld ?_
      case hya8 => (intro w hSw; (try dsimp only at hSw); go_simp; try (with_reducible rfl))
      (try simp only [Act.put, List.getElem_toArray, List.getElem_cons_succ, List.getElem_cons_zero, List.setIfInBounds_toArray, List.set_cons_zero, List.set_cons_succ])
      refine wpAnyD_take (i := 9) (v := ?_) rfl (by kernel_rfl) (by kernel_rfl) (by kernel_rfl) (by kernel_rfl) (fun _ _ _ h => h) (Or.inl ⟨by rfl, ?hya9⟩) hHeld ?_
      case hya9 => (intro w hSw; (try dsimp only at hSw); go_simp; try (with_reducible rfl))
      (try simp only [Act.put, List.getElem_toArray, List.getElem_cons_succ, List.getElem_cons_zero, List.setIfInBounds_toArray, List.set_cons_zero, List.set_cons_succ])
      refine wpAnyD_take (i := 10) (v := ?_) rfl (by kernel_rfl) (by kernel_rfl) (by kernel_rfl) (by kernel_rfl) (fun _ _ _ h => h) (Or.inl ⟨by rfl, ?hya10⟩) hHeld ?_
      case hya10 => (intro w hSw; (try dsimp only at hSw); go_simp; try (with_reducible rfl))
      (try simp only [Act.put, List.getElem_toArray, List.getElem_cons_succ, List.getElem_cons_zero, List.setIfInBounds_toArray, List.set_cons_zero, List.set_cons_succ])
      refine wpAnyD_take (i := 11) (v := ?_) rfl (by kernel_rfl) (by kernel_rfl) (by kernel_rfl) (by kernel_rfl) (fun _ _ _ h => h) (Or.inl ⟨by rfl, ?hya11⟩) hHeld ?_
      case hya11 => (intro w hSw; (try dsimp only at hSw); go_simp; try (with_reducible rfl))
      (try simp only [Act.put, List.getElem_toArray, List.getElem_cons_succ, List.getElem_cons_zero, List.setIfInBounds_toArray, List.set_cons_zero, List.set_cons_succ])
      refine wpAnyD_take (i := 12) (v := ?_) rfl (by kernel_rfl) (by kernel_rfl) (by kernel_rfl) (by kernel_rfl) (fun _ _ _ h => h) (Or.inl ⟨by rfl, ?hya12⟩) hHeld ?_
      case hya12 => (intro w hSw; (try dsimp only at hSw); go_simp; try (with_reducible rfl))
      (try simp only [Act.put, List.getElem_toArray, List.getElem_cons_succ, List.getElem_cons_zero, List.setIfInBounds_toArray, List.set_cons_zero, List.set_cons_succ])
      refine wpAnyD_take (i := 13) (v := ?_) rfl (by kernel_rfl) (by kernel_rfl) (by kernel_rfl) (by kernel_rfl) (fun _ _ _ h => h) (Or.inl ⟨by rfl, ?hya13⟩) hHeld ?_
      case hya13 => (intro w hSw; (try dsimp only at hSw); go_simp; try (with_reducible rfl))
      (try simp only [Act.put, List.getElem_toArray, List.getElem_cons_succ, List.getElem_cons_zero, List.setIfInBounds_toArray, List.set_cons_zero, List.set_cons_succ])
      refine wpAnyD_take (i := 14) (v := ?_) rfl (by kernel_rfl) (by kernel_rfl) (by kernel_rfl) (by kernel_rfl) (fun _ _ _ h => h) (Or.inl ⟨by rfl, ?hya14⟩) hHeld ?_
      case hya14 => (intro w hSw; (try dsimp only at hSw); go_simp; try (with_reducible rfl))
      (try simp only [Act.put, List.getElem_toArray, List.getElem_cons_succ, List.getElem_cons_zero, List.setIfInBounds_toArray, List.set_cons_zero, List.set_cons_succ])
      refine wpAnyD_take (i := 15) (v := ?_) rfl (by kernel_rfl) (by kernel_rfl) (by kernel_rfl) (by kernel_rfl) (fun _ _ _ h => h) (Or.inl ⟨by rfl, ?hya15⟩) hHeld ?_
      case hya15 => (intro w hSw; (try dsimp only at hSw); go_simp; try (with_reducible rfl))
      (try simp only [Act.put, List.getElem_toArray, List.getElem_cons_succ, List.getElem_cons_zero, List.setIfInBounds_toArray, List.set_cons_zero, List.set_cons_succ])
      refine wpAnyD_take (i := 16) (v := ?_) rfl (by kernel_rfl) (by kernel_rfl) (by kernel_rfl) (by kernel_rfl) (fun _ _ _ h => h) (Or.inl ⟨by rfl, ?hya16⟩) hHeld ?_
      case hya16 => (intro w hSw; (try dsimp only at hSw); go_simp; try (with_reducible rfl))
      (try simp only [Act.put, List.getElem_toArray, List.getElem_cons_succ, List.getElem_cons_zero, List.setIfInBounds_toArray, List.set_cons_zero, List.set_cons_succ])
      refine wpAnyD_done (by kernel_rfl) ?_ _
      (try simp only [Act.put, List.getElem_toArray, List.getElem_cons_succ, List.getElem_cons_zero, List.setIfInBounds_toArray, List.set_cons_zero, List.set_cons_succ])
      have KD := hid (KR.out.trans (Kept.refl wr).drew)
      clear hHeld
      go_wp2_with fail
      go_roundw
      case rel => exact ⟨1, .inr rfl, rfl, KD.out⟩
      case measure => simp [intOf]
    · skip
      have c2 := HC2.out _ kr
      go_wp2_with fail
      go_loopw [4] (fun iv wr => iv = .int .i64 0 ∧ Kept u wr) (fun iv _ => 0)
      case atStart => exact ⟨rfl, kr⟩
      case round =>
        clear c0 c1 c2 r1 r2 s1 s2 kr
        obtain ⟨rfl, kr⟩ := hrel
        have c2 := HC2.out _ kr
        have KR2 := hid kr
        go_wp2_with fail
        go_at_call 19
        refine (HBy.out _ kr).mono ?_
        rintro e w5 ⟨rfl, k5⟩
        have K5 := hid k5
        clear k5 c2
        go_wp2_with fail
        go_at_call 20
        refine (HLi.out _ _ KR2.out K5.out).mono ?_
        rintro e w6 ⟨rfl, k6⟩
        go_wp2_with fail
        go_ret
        exact ⟨rfl, ((KR2.out.kx _).trans (K5.out.mono HPX.out)).trans (k6.kx _)⟩

set_option maxHeartbeats 8000000 in
set_option maxRecDepth 100000 in
theorem stateWrites_true (v : Value) (s : Sta) (w : World) (hS : StI w v s) (hrg : SRg s) (hrc : SRc s) : Calls Try.prog 3 #[v] w fun e w' => e = .returned (.bool true) ∧ Kept w w' := by
  have HA := hid alive23
  have HBu := hid (fun (u : World) (k : Kept w u) => bulk_sm v s hrc u (hS.kept k))
  have HWr := hid (fun (K : Nat) (u : World) (k : Kept w u) (hs : Smal s) (hk : Bk u K [.slice none 0 0, .slice none 0 0, .slice none 0 0, .slice none 0 0]) => writes_any v s K hs hrg u (hS.kept k) hk)
  obtain ⟨pa, pc, qa, qc, rfl⟩ := hS.form
  clear hS hrg hrc
  generalize s.P.length = pl at *
  generalize s.Q.length = ql at *
  generalize s.a = sa at *
  generalize s.b = sb at *
  generalize s.d = sd at *
  generalize s.lo = lo at *
  generalize s.ra = ra at *
  obtain ⟨M, hM⟩ : ∃ M, w.heap.size = M := ⟨_, rfl⟩
  obtain ⟨W0, hW0⟩ : ∃ W0, (w.alloc (.cells #[.int .i64 sa, .int .i64 sb, .int .i64 sd, .slice pa pl pc, .slice qa ql qc, .int .i64 lo, .int .i64 ra] 25)).alloc (.cells #[.slice none 0 0, .slice none 0 0, .slice none 0 0, .slice none 0 0] 30) = W0 := ⟨_, rfl⟩
  have k0 : Kept w W0 := by rw [← hW0]; exact ((Kept.refl w).alloc _ _).alloc _ _
  have b0 : Bk W0 M [.int .i64 sa, .int .i64 sb, .int .i64 sd, .slice pa pl pc, .slice qa ql qc, .int .i64 lo, .int .i64 ra] := by rw [← hW0, ← hM]; exact (Bk.new w [.int .i64 sa, .int .i64 sb, .int .i64 sd, .slice pa pl pc, .slice qa ql qc, .int .i64 lo, .int .i64 ra] 25).kept ((Kept.refl _).alloc _ _)
  have bk : Bk W0 (M + 1) [.slice none 0 0, .slice none 0 0, .slice none 0 0, .slice none 0 0] := by
    have h := Bk.new (w.alloc (.cells #[.int .i64 sa, .int .i64 sb, .int .i64 sd, .slice pa pl pc, .slice qa ql qc, .int .i64 lo, .int .i64 ra] 25)) [.slice none 0 0, .slice none 0 0, .slice none 0 0, .slice none 0 0] 30
    rw [World.size_alloc, hM, hW0] at h
    exact h
  have HBk := hid (fun (u : World) (ku : Kept W0 u) => (show u.cell? ⟨M, 0, none⟩ = some (.int .i64 sa) ∧ u.cell? ⟨M, 1, none⟩ = some (.int .i64 sb) ∧ u.cell? ⟨M, 2, none⟩ = some (.int .i64 sd) ∧ u.cell? ⟨M, 3, none⟩ = some (.slice pa pl pc) ∧ u.cell? ⟨M, 4, none⟩ = some (.slice qa ql qc) ∧ u.cell? ⟨M, 5, none⟩ = some (.int .i64 lo) ∧ u.cell? ⟨M, 6, none⟩ = some (.int .i64 ra) from ⟨(b0.kept ku).c 0 _ rfl, (b0.kept ku).c 1 _ rfl, (b0.kept ku).c 2 _ rfl, (b0.kept ku).c 3 _ rfl, (b0.kept ku).c 4 _ rfl, (b0.kept ku).c 5 _ rfl, (b0.kept ku).c 6 _ rfl⟩))
  have HKb := hid bk
  have HK0 := hid k0
  have HM := hid hM
  clear k0 b0 bk
  go_enter Try.func3, Try.ntmps3
  go_wp2_with fail
  (try rw [hW0])
  go_at_call 6
  refine (HA.out _).mono ?_
  rintro e w1 ⟨rfl, k1⟩
  have K1 := hid k1
  clear k1 hW0 hM
  obtain ⟨x0, x1, x2, x3, x4, x5, x6⟩ := HBk.out w1 K1.out
  go_wp2_with fail
  go_at_call 7
  refine (HBu.out w1 (HK0.out.trans K1.out)).mono ?_
  rintro e w2 ⟨⟨x, rfl, hsm⟩, k2⟩
  have K2 := hid (K1.out.trans k2)
  have HSm := hid hsm
  clear k2 x0 x1 x2 x3 x4 x5 x6 hsm K1
  by_cases hx : 40000 < x
  · have hxd : decide (40000 < x) = true := decide_eq_true hx
    have HAp := hid (apart0 (M + 1) w2 (HKb.out.kept K2.out))
    go_wp2_with fail
    go_at_call 9
    refine HAp.out.mono ?_
    rintro e w3 ⟨rfl, k3⟩
    go_wp2_with fail
    go_ret
    exact ⟨rfl, HK0.out.trans (K2.out.trans k3)⟩
  have hxd : decide (40000 < x) = false := decide_eq_false hx
  have HWc := hid (HWr.out (M + 1) w2 (HK0.out.trans K2.out) (HSm.out (by omega)) (HKb.out.kept K2.out))
  obtain ⟨x0, x1, x2, x3, x4, x5, x6⟩ := HBk.out w2 K2.out
  go_wp2_with fail
  go_at_call 8
  refine HWc.out.mono ?_
  rintro e w3 ⟨rfl, kx3, hkp⟩
  have h2 : M + 1 < w2.heap.size := (HKb.out.kept K2.out).lt
  have HAp := hid (apartW (M + 1) w2.heap.size w3 hkp h2)
  have KX3 := hid kx3
  have H2 := hid h2
  clear kx3 hkp x0 x1 x2 x3 x4 x5 x6 h2
  go_wp2_with fail
  go_at_call 9
  refine HAp.out.mono ?_
  rintro e w4 ⟨rfl, k4⟩
  have h3 := kept_of_kx (HK0.out.trans K2.out) KX3.out (fun b hb => by have := HM.out; omega)
  have h4 := kept_of_kx h3 k4 (fun b hb => by have := (HK0.out.trans K2.out).below.size; omega)
  clear k4 h3
  go_wp2_with fail
  go_ret
  exact ⟨rfl, h4⟩
end Go.Proofs.Ytphkdkenopkbbaa
