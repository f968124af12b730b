/- StateBack: the law. -/
import Derived.Test.YtfbcdbfalopkeaaWF
namespace Go.Proofs.Ytfbcdbfalopkeaa
open Go.ChangeShapes Go.WideShapes Go.ChangeAt Go.RowKit
set_option linter.unusedVariables false
set_option linter.unusedSimpArgs false

/-- A state value, cell by cell. -/
theorem StI.form {w : World} {v : Value} {s : Sta} (h : StI w v s) : ∃ pa pc qa qc, v = .agg #[.int .i64 s.a, .int .i64 s.b, .int .i64 s.d, .slice pa s.P.length pc, .slice qa s.Q.length qc, .int .i64 s.lo, .int .i64 s.ra] := by
  obtain ⟨pv, qv, rfl, ⟨pa, pc, rfl, -, -⟩, ⟨qa, qc, rfl, -, -⟩⟩ := h
  exact ⟨pa, pc, qa, qc, rfl⟩
/-- The lists of a state are no longer than lists may be. -/
structure SLen (s : Sta) : Prop where
  p : s.P.length ≤ 9223372036854775807
  q : s.Q.length ≤ 9223372036854775807
  l : ∀ l ∈ s.Q, l.length ≤ 9223372036854775807
theorem Frm.slen {s : Sta} (h : Frm s) : SLen s := ⟨by have := h.pl; omega, by have := h.ql; omega, fun l hl => by
  obtain ⟨i, hi, rfl⟩ := List.getElem_of_mem hl
  have := (h.q i _ (List.getElem?_eq_getElem hi)).1
  omega⟩
def SB (B : List Int) : ByteArray := ⟨(B.map fun n => UInt8.ofNat n.toNat).toArray⟩

set_option maxHeartbeats 16000000 in
set_option maxRecDepth 100000 in
theorem stateBack_true (v : Value) (s : Sta) (ba : Option Addr) (bc : Nat) (B : List Int) (w : World) (hS : StI w v s) (hrg : SRg s) (hsl : SLen s) (hB : Byt B) (hlc : B.length ≤ bc) (hBr : B ≠ [] → ∃ b off, ba = some ⟨b, off, none⟩ ∧ b < w.heap.size ∧ BR w b off B) :
    Calls Try.prog 3 #[v, .slice ba B.length bc] w fun e w' => e = .returned (.bool true) ∧ Kept w w' := by
  have HA := hid alive23
  have HBulk : Hid (∀ u, Kept w u → Calls Try.prog 8 #[v] u fun e w' => (∃ x, e = .returned (.int .i64 x)) ∧ Kept u w') := fun u ku => bulk_any v s hsl.p hsl.q hsl.l u (hS.kept ku)
  have HW : Hid (∀ u, Kept w u → Calls Try.prog 10 #[v] u fun e w' => Kept u w' ∧ WrP u.heap.size s e w') := fun u ku => write_any v s hsl.p hsl.q u (hS.kept ku)
  have HC : Hid (∀ u, Kept w u → Calls Try.prog 11 #[v] u fun e w' => Kept u w' ∧ ((Frm s ∧ e = .returned (.int .i64 0)) ∨ (¬ Frm s ∧ e = .returned (.int .i64 43)))) := fun u ku => checkf_any v s hsl.p hsl.q u (hS.kept ku)
  have HRE : Hid (Frm s → ∀ g u, OwnV u g (enc s).length 5 ((enc s).map (Value.int .u8)) → Calls Try.prog 12 #[.slice (some ⟨g, 0, none⟩) (enc s).length (enc s).length] u fun e w' => Kept u w' ∧ ∃ v2, e = .returned (.tuple #[v2, .int .i64 0, .int .i64 0]) ∧ StI w' v2 s) := fun hF g u h => by
    have := read_any (some ⟨g, 0, none⟩) (enc s).length (enc s) (byt_enc s) (Nat.le_refl _) u (own_br h)
    rw [read_enc hF hrg] at this
    refine this.mono ?_
    rintro e w' ⟨k, v2, rfl, hv⟩
    exact ⟨k, v2, rfl, hv.st⟩
  have HSame : Hid (∀ v2 u, Kept w u → StI u v2 s → Calls Try.prog 13 #[v2, v] u fun e w' => e = .returned (.bool true) ∧ Kept u w') := fun v2 u ku h2 => same_true s v2 v hsl.p hsl.q hsl.l u h2 (hS.kept ku)
  have HRB : Hid (∀ u, Kept w u → Calls Try.prog 12 #[.slice ba B.length bc] u fun e w' => Kept u w' ∧ RdR u.heap.size (rread B) e w') := fun u ku => read_any ba bc B hB hlc u (fun hne => by
    obtain ⟨b, off, e, hb, hr⟩ := hBr hne
    exact ⟨b, off, e, Nat.lt_of_lt_of_le hb ku.below.size, fun i hi => (ku.below.cell (p := ⟨b, off + i, none⟩) hb).trans (hr i hi)⟩)
  have HSZ : Hid (∀ u, Calls Try.prog 13 #[zst, zst] u fun e w' => e = .returned (.bool true) ∧ Kept u w') := fun u => same_true sta0 zst zst (by decide) (by decide) (by decide) u (zst_st u) (zst_st u)
  have HW2 : Hid (∀ v2 s2 u, Frm s2 → StI u v2 s2 → Calls Try.prog 10 #[v2] u fun e w' => Kept u w' ∧ ∃ g, e = .returned (.tuple #[.slice (some ⟨g, 0, none⟩) (enc s2).length (enc s2).length, .int .i64 0]) ∧ OwnV w' g (enc s2).length 5 ((enc s2).map (Value.int .u8))) := fun v2 s2 u hF h => by
    refine (write_any v2 s2 hF.slen.p hF.slen.q u h).mono ?_
    rintro e w' ⟨k, ⟨-, g, rfl, -, ho⟩ | ⟨hn, -⟩⟩
    · exact ⟨k, g, rfl, ho⟩
    · exact absurd hF hn
  have HSt : Hid (∀ u, Kept w u → B ≠ [] → (convert 26 9 (.slice ba B.length bc)).run Try.prog u = .ok (.string (SB B)) u) := fun u ku hne => by
    obtain ⟨b, off, rfl, hb, hr⟩ := hBr hne
    exact str_run B hB b off bc u (fun i hi => (ku.below.cell (p := ⟨b, off + i, none⟩) hb).trans (hr i hi))
  have HDec : Hid (∀ s2 q, rread B = .ok s2 q → Frm s2 ∧ enc s2 = B ∧ B ≠ []) := fun s2 q h => by
    obtain ⟨h1, h2⟩ := read_dec hB h
    refine ⟨h1, h2, fun e => ?_⟩
    have h3 := enc_len h1
    have h4 := h1.sz
    rw [h2, e] at h3
    simp at h3
    omega
  have HByt := hid hB
  obtain ⟨pa, pc, qa, qc, rfl⟩ := hS.form
  clear hS hrg hsl hB hlc hBr
  obtain ⟨bl, hbl⟩ : ∃ bl, B.length = bl := ⟨_, rfl⟩
  rw [hbl] at HRB HSt ⊢
  have HBl := hid hbl
  clear hbl
  obtain ⟨n, hn⟩ : ∃ n, (enc s).length = n := ⟨_, rfl⟩
  rw [hn] at HRE
  have HEn := hid hn
  clear hn
  generalize s.P.length = pl at *
  generalize s.Q.length = ql at *
  generalize s.a = sa at *
  generalize s.b = sb at *
  generalize s.d = sd at *
  generalize s.lo = lo at *
  generalize s.ra = ra at *
  obtain ⟨M, hM⟩ : ∃ M, w.heap.size = M := ⟨_, rfl⟩
  obtain ⟨W0, hW0⟩ : ∃ W0, w.alloc (.cells #[.int .i64 sa, .int .i64 sb, .int .i64 sd, .slice pa pl pc, .slice qa ql qc, .int .i64 lo, .int .i64 ra] 25) = W0 := ⟨_, rfl⟩
  have k0 : Kept w W0 := by rw [← hW0]; exact (Kept.refl w).alloc _ _
  have b0 : Bk W0 M [.int .i64 sa, .int .i64 sb, .int .i64 sd, .slice pa pl pc, .slice qa ql qc, .int .i64 lo, .int .i64 ra] := by rw [← hW0, ← hM]; exact Bk.new w _ _
  have HBk := hid (show ∀ u, Kept W0 u → u.cell? ⟨M, 0, none⟩ = some (.int .i64 sa) ∧ u.cell? ⟨M, 1, none⟩ = some (.int .i64 sb) ∧ u.cell? ⟨M, 2, none⟩ = some (.int .i64 sd) ∧ u.cell? ⟨M, 3, none⟩ = some (.slice pa pl pc) ∧ u.cell? ⟨M, 4, none⟩ = some (.slice qa ql qc) ∧ u.cell? ⟨M, 5, none⟩ = some (.int .i64 lo) ∧ u.cell? ⟨M, 6, none⟩ = some (.int .i64 ra) from fun u ku => by
    have b := b0.kept ku
    exact ⟨b.c 0 _ rfl, b.c 1 _ rfl, b.c 2 _ rfl, b.c 3 _ rfl, b.c 4 _ rfl, b.c 5 _ rfl, b.c 6 _ rfl⟩)
  have HK0 := hid k0
  obtain ⟨x0, x1, x2, x3, x4, x5, x6⟩ := HBk.out W0 (Kept.refl W0)
  clear k0 b0
  go_enter Try.func3, Try.ntmps3
  go_wp2_with fail
  go_at_call 8
  refine (HBulk.out W0 HK0.out).mono ?_
  rintro e w1 ⟨⟨x, rfl⟩, k1⟩
  have K1 := hid k1
  clear k1 hM hW0 x0 x1 x2 x3 x4 x5 x6
  by_cases hx : 40000 < x
  · have hxd : decide (40000 < x) = true := decide_eq_true hx
    go_wp2_with (first | (go_at_call 9; refine (HA.out _).mono ?_; rintro e w2 ⟨rfl, k2⟩))
    go_ret
    exact ⟨rfl, HK0.out.trans (K1.out.trans k2)⟩
  have hxd : decide (40000 < x) = false := decide_eq_false hx
  by_cases hb : 400000 < bl
  · have hbd : decide ((400000 : Int) < (bl : Int)) = true := decide_eq_true (by omega)
    have hbd2 : decide (400000 < bl) = true := decide_eq_true hb
    go_wp2_with (first | (go_at_call 9; refine (HA.out _).mono ?_; rintro e w2 ⟨rfl, k2⟩))
    go_ret
    exact ⟨rfl, HK0.out.trans (K1.out.trans k2)⟩
  have hbd : decide ((400000 : Int) < (bl : Int)) = false := decide_eq_false (by omega)
  have hbd2 : decide (400000 < bl) = false := decide_eq_false hb
  have HWc := hid (HW.out w1 (HK0.out.trans K1.out))
  obtain ⟨x0, x1, x2, x3, x4, x5, x6⟩ := HBk.out w1 K1.out
  go_wp2_with fail
  go_at_call 10
  refine HWc.out.mono ?_
  rintro e w2 ⟨k2, hwr⟩
  have K2 := hid (K1.out.trans k2)
  have HCc := hid (HC.out w2 (HK0.out.trans K2.out))
  clear x0 x1 x2 x3 x4 x5 x6 hx hxd hb hbd hbd2 k2 HWc HBulk K1
  obtain ⟨x0, x1, x2, x3, x4, x5, x6⟩ := HBk.out w2 K2.out
  rcases hwr with ⟨hF, g, rfl, -, ho⟩ | ⟨hF, rfl⟩
  · rw [HEn.out] at ho ⊢
    have HO := hid ho
    have HFr := hid hF
    have HREc := hid (HRE.out hF)
    clear ho hF
    go_wp2_with fail
    go_at_call 11
    refine HCc.out.mono ?_
    rintro e w3 ⟨k3, hck⟩
    rcases (show _ ∨ _ from hck).symm with ⟨hno, -⟩ | ⟨-, rfl⟩
    · exact absurd HFr.out hno
    have K3 := hid (K2.out.trans k3)
    have HO3 := hid (HO.out.kept k3)
    clear k3 hck x0 x1 x2 x3 x4 x5 x6 HCc HO K2
    go_wp2_with fail
    go_at_call 12
    refine (HREc.out g w3 HO3.out).mono ?_
    rintro e w4 ⟨k4, v4, rfl, hv4⟩
    obtain ⟨pa4, pc4, qa4, qc4, rfl⟩ := hv4.form
    obtain ⟨D4, hD4⟩ : ∃ D4, w4.heap.size = D4 := ⟨_, rfl⟩
    obtain ⟨W4, hW4⟩ : ∃ W4, w4.alloc (.cells #[.int .i64 s.a, .int .i64 s.b, .int .i64 s.d, .slice pa4 s.P.length pc4, .slice qa4 s.Q.length qc4, .int .i64 s.lo, .int .i64 s.ra] 25) = W4 := ⟨_, rfl⟩
    have kw4 : Kept w4 W4 := by rw [← hW4]; exact (Kept.refl w4).alloc _ _
    have b4 : Bk W4 D4 [.int .i64 s.a, .int .i64 s.b, .int .i64 s.d, .slice pa4 s.P.length pc4, .slice qa4 s.Q.length qc4, .int .i64 s.lo, .int .i64 s.ra] := by rw [← hW4, ← hD4]; exact Bk.new w4 _ _
    have K4 := hid (K3.out.trans (k4.trans kw4))
    obtain ⟨x0, x1, x2, x3, x4, x5, x6⟩ := HBk.out W4 K4.out
    have y0 := b4.c 0 _ rfl
    have y1 := b4.c 1 _ rfl
    have y2 := b4.c 2 _ rfl
    have y3 := b4.c 3 _ rfl
    have y4 := b4.c 4 _ rfl
    have y5 := b4.c 5 _ rfl
    have y6 := b4.c 6 _ rfl
    have HSm := hid (HSame.out _ W4 (HK0.out.trans K4.out) (hv4.kept kw4))
    clear b4 kw4 k4 hv4
    generalize s.P.length = pl4 at *
    generalize s.Q.length = ql4 at *
    generalize s.a = sa4 at *
    generalize s.b = sb4 at *
    generalize s.d = sd4 at *
    generalize s.lo = lo4 at *
    generalize s.ra = ra4 at *
    go_wp2_with fail
    (try rw [hW4])
    (try rw [hD4])
    go_at_call 13
    refine HSm.out.mono ?_
    rintro e wn ⟨rfl, kn⟩
    have KN := hid (K4.out.trans kn)
    clear x0 x1 x2 x3 x4 x5 x6 y0 y1 y2 y3 y4 y5 y6 kn HSm hW4 hD4
    go_wp2_with fail
    go_at_call 12
    refine (HRB.out _ (HK0.out.trans KN.out)).mono ?_
    rintro e w5 ⟨k5, hrd⟩
    have K5 := hid (KN.out.trans k5)
    clear k5
    rcases hx : rread B with ⟨er, pl2⟩ | ⟨s2, q2⟩
    · rw [hx] at hrd
      obtain rfl : e = .returned (.tuple #[zst, .int .i64 pl2, .int .i64 er]) := hrd
      have hne := read_no hx
      have hne1 : (er == 0) = false := by simpa using hne
      have hne2 : (er != 0) = true := by simpa using hne
      clear hx hne
      obtain ⟨D, hD⟩ : ∃ D, w5.heap.size = D := ⟨_, rfl⟩
      obtain ⟨W5, hW5⟩ : ∃ W5, w5.alloc (.cells #[.int .i64 0, .int .i64 0, .int .i64 0, .slice none 0 0, .slice none 0 0, .int .i64 0, .int .i64 0] 25) = W5 := ⟨_, rfl⟩
      have b5 : Bk W5 D zsl := by rw [← hW5, ← hD]; exact Bk.new w5 _ _
      have K6 := hid (K5.out.trans (show Kept w5 W5 by rw [← hW5]; exact (Kept.refl w5).alloc _ _))
      have HW5 := hid hW5
      clear hW5
      go_wp2_with fail
      (try rw [HW5.out])
      (try rw [hD])
      go_at_call 9
      refine (HA.out _).mono ?_
      rintro e w6 ⟨rfl, k6⟩
      have b6 := b5.kept k6
      have y0 := b6.c 0 _ rfl
      have y1 := b6.c 1 _ rfl
      have y2 := b6.c 2 _ rfl
      have y3 := b6.c 3 _ rfl
      have y4 := b6.c 4 _ rfl
      have y5 := b6.c 5 _ rfl
      have y6 := b6.c 6 _ rfl
      clear b5 b6
      go_wp2_with fail
      go_at_call 13
      refine (HSZ.out _).mono ?_
      rintro e w7 ⟨rfl, k7⟩
      go_wp2_with fail
      go_ret
      exact ⟨rfl, HK0.out.trans ((K6.out.trans k6).trans k7)⟩
    · rw [hx] at hrd
      obtain ⟨v2, rfl, hv⟩ := hrd
      obtain ⟨hF2, hE2, hne⟩ := HDec.out s2 q2 hx
      have hv2 := hv.st
      obtain ⟨pa2, pc2, qa2, qc2, rfl⟩ := hv2.form
      clear hx hv
      obtain ⟨D, hD⟩ : ∃ D, w5.heap.size = D := ⟨_, rfl⟩
      obtain ⟨W5, hW5⟩ : ∃ W5, w5.alloc (.cells #[.int .i64 s2.a, .int .i64 s2.b, .int .i64 s2.d, .slice pa2 s2.P.length pc2, .slice qa2 s2.Q.length qc2, .int .i64 s2.lo, .int .i64 s2.ra] 25) = W5 := ⟨_, rfl⟩
      have kw5 : Kept w5 W5 := by rw [← hW5]; exact (Kept.refl w5).alloc _ _
      have b5 : Bk W5 D [.int .i64 s2.a, .int .i64 s2.b, .int .i64 s2.d, .slice pa2 s2.P.length pc2, .slice qa2 s2.Q.length qc2, .int .i64 s2.lo, .int .i64 s2.ra] := by rw [← hW5, ← hD]; exact Bk.new w5 _ _
      have K6 := hid (K5.out.trans kw5)
      have HWx := hid (HW2.out _ s2 W5 hF2 (hv2.kept kw5))
      have HNE := hid hne
      rw [hE2] at HWx
      have HBLx := HBl.out
      rw [HBLx] at HWx
      clear HBLx hF2 hE2 hne kw5 hv2
      generalize s2.P.length = pl2 at *
      generalize s2.Q.length = ql2 at *
      generalize s2.a = sa2 at *
      generalize s2.b = sb2 at *
      generalize s2.d = sd2 at *
      generalize s2.lo = lo2 at *
      generalize s2.ra = ra2 at *
      have y0 := b5.c 0 _ rfl
      have y1 := b5.c 1 _ rfl
      have y2 := b5.c 2 _ rfl
      have y3 := b5.c 3 _ rfl
      have y4 := b5.c 4 _ rfl
      have y5 := b5.c 5 _ rfl
      have y6 := b5.c 6 _ rfl
      clear b5
      go_wp2_with fail
      (try rw [hW5])
      (try rw [hD])
      go_at_call 10
      refine HWx.out.mono ?_
      rintro e w6 ⟨k6, g6, rfl, ho6⟩
      have HO6 := hid ho6
      have K7 := hid (K6.out.trans k6)
      clear y0 y1 y2 y3 y4 y5 y6 k6 ho6 HWx hW5 hD
      go_wp2_with fail
      go_at_call 9
      refine (HA.out _).mono ?_
      rintro e w7 ⟨rfl, k7⟩
      have hs1 := HSt.out w7 (HK0.out.trans (K7.out.trans k7)) HNE.out
      have ho7 := HO6.out.kept k7
      obtain ⟨_, _, e9, hbl9, hbr9⟩ := own_br ho7 HNE.out
      cases e9
      have hs2 := str_run B HByt.out g6 0 bl w7 hbr9
      rw [HBl.out] at hs2
      rw [show (⟨(B.map fun n => UInt8.ofNat n.toNat).toArray⟩ : ByteArray) = SB B from rfl] at hs2
      have K8 := hid (K7.out.trans k7)
      clear k7 ho7 hbl9 hbr9
      generalize SB B = S at *
      have heq : ∀ u : World, (binOp .eql 9 (.string S) (.string S)).run Try.prog u = .ok (.bool true) u := fun u => by
        rw [binOp_string_eql]
        simp [Sem.run_pure]
      go_wp2_with fail
      go_ret
      exact ⟨rfl, HK0.out.trans K8.out⟩
  · have HFr := hid hF
    clear hF
    go_wp2_with fail
    go_at_call 11
    refine HCc.out.mono ?_
    rintro e w3 ⟨k3, hck⟩
    rcases hck with ⟨hF, -⟩ | ⟨-, rfl⟩
    · exact absurd hF HFr.out
    have KN := hid (K2.out.trans k3)
    clear k3 x0 x1 x2 x3 x4 x5 x6 HCc K2
    go_wp2_with fail
    go_at_call 12
    refine (HRB.out _ (HK0.out.trans KN.out)).mono ?_
    rintro e w5 ⟨k5, hrd⟩
    have K5 := hid (KN.out.trans k5)
    clear k5
    rcases hx : rread B with ⟨er, pl2⟩ | ⟨s2, q2⟩
    · rw [hx] at hrd
      obtain rfl : e = .returned (.tuple #[zst, .int .i64 pl2, .int .i64 er]) := hrd
      have hne := read_no hx
      have hne1 : (er == 0) = false := by simpa using hne
      have hne2 : (er != 0) = true := by simpa using hne
      clear hx hne
      obtain ⟨D, hD⟩ : ∃ D, w5.heap.size = D := ⟨_, rfl⟩
      obtain ⟨W5, hW5⟩ : ∃ W5, w5.alloc (.cells #[.int .i64 0, .int .i64 0, .int .i64 0, .slice none 0 0, .slice none 0 0, .int .i64 0, .int .i64 0] 25) = W5 := ⟨_, rfl⟩
      have b5 : Bk W5 D zsl := by rw [← hW5, ← hD]; exact Bk.new w5 _ _
      have K6 := hid (K5.out.trans (show Kept w5 W5 by rw [← hW5]; exact (Kept.refl w5).alloc _ _))
      have HW5 := hid hW5
      clear hW5
      go_wp2_with fail
      (try rw [HW5.out])
      (try rw [hD])
      go_at_call 9
      refine (HA.out _).mono ?_
      rintro e w6 ⟨rfl, k6⟩
      have b6 := b5.kept k6
      have y0 := b6.c 0 _ rfl
      have y1 := b6.c 1 _ rfl
      have y2 := b6.c 2 _ rfl
      have y3 := b6.c 3 _ rfl
      have y4 := b6.c 4 _ rfl
      have y5 := b6.c 5 _ rfl
      have y6 := b6.c 6 _ rfl
      clear b5 b6
      go_wp2_with fail
      go_at_call 13
      refine (HSZ.out _).mono ?_
      rintro e w7 ⟨rfl, k7⟩
      go_wp2_with fail
      go_ret
      exact ⟨rfl, HK0.out.trans ((K6.out.trans k6).trans k7)⟩
    · rw [hx] at hrd
      obtain ⟨v2, rfl, hv⟩ := hrd
      obtain ⟨hF2, hE2, hne⟩ := HDec.out s2 q2 hx
      have hv2 := hv.st
      obtain ⟨pa2, pc2, qa2, qc2, rfl⟩ := hv2.form
      clear hx hv
      obtain ⟨D, hD⟩ : ∃ D, w5.heap.size = D := ⟨_, rfl⟩
      obtain ⟨W5, hW5⟩ : ∃ W5, w5.alloc (.cells #[.int .i64 s2.a, .int .i64 s2.b, .int .i64 s2.d, .slice pa2 s2.P.length pc2, .slice qa2 s2.Q.length qc2, .int .i64 s2.lo, .int .i64 s2.ra] 25) = W5 := ⟨_, rfl⟩
      have kw5 : Kept w5 W5 := by rw [← hW5]; exact (Kept.refl w5).alloc _ _
      have b5 : Bk W5 D [.int .i64 s2.a, .int .i64 s2.b, .int .i64 s2.d, .slice pa2 s2.P.length pc2, .slice qa2 s2.Q.length qc2, .int .i64 s2.lo, .int .i64 s2.ra] := by rw [← hW5, ← hD]; exact Bk.new w5 _ _
      have K6 := hid (K5.out.trans kw5)
      have HWx := hid (HW2.out _ s2 W5 hF2 (hv2.kept kw5))
      have HNE := hid hne
      rw [hE2] at HWx
      have HBLx := HBl.out
      rw [HBLx] at HWx
      clear HBLx hF2 hE2 hne kw5 hv2
      generalize s2.P.length = pl2 at *
      generalize s2.Q.length = ql2 at *
      generalize s2.a = sa2 at *
      generalize s2.b = sb2 at *
      generalize s2.d = sd2 at *
      generalize s2.lo = lo2 at *
      generalize s2.ra = ra2 at *
      have y0 := b5.c 0 _ rfl
      have y1 := b5.c 1 _ rfl
      have y2 := b5.c 2 _ rfl
      have y3 := b5.c 3 _ rfl
      have y4 := b5.c 4 _ rfl
      have y5 := b5.c 5 _ rfl
      have y6 := b5.c 6 _ rfl
      clear b5
      go_wp2_with fail
      (try rw [hW5])
      (try rw [hD])
      go_at_call 10
      refine HWx.out.mono ?_
      rintro e w6 ⟨k6, g6, rfl, ho6⟩
      have HO6 := hid ho6
      have K7 := hid (K6.out.trans k6)
      clear y0 y1 y2 y3 y4 y5 y6 k6 ho6 HWx hW5 hD
      go_wp2_with fail
      go_at_call 9
      refine (HA.out _).mono ?_
      rintro e w7 ⟨rfl, k7⟩
      have hs1 := HSt.out w7 (HK0.out.trans (K7.out.trans k7)) HNE.out
      have ho7 := HO6.out.kept k7
      obtain ⟨_, _, e9, hbl9, hbr9⟩ := own_br ho7 HNE.out
      cases e9
      have hs2 := str_run B HByt.out g6 0 bl w7 hbr9
      rw [HBl.out] at hs2
      rw [show (⟨(B.map fun n => UInt8.ofNat n.toNat).toArray⟩ : ByteArray) = SB B from rfl] at hs2
      have K8 := hid (K7.out.trans k7)
      clear k7 ho7 hbl9 hbr9
      generalize SB B = S at *
      have heq : ∀ u : World, (binOp .eql 9 (.string S) (.string S)).run Try.prog u = .ok (.bool true) u := fun u => by
        rw [binOp_string_eql]
        simp [Sem.run_pure]
      go_wp2_with fail
      go_ret
      exact ⟨rfl, HK0.out.trans K8.out⟩
end Go.Proofs.Ytfbcdbfalopkeaa
