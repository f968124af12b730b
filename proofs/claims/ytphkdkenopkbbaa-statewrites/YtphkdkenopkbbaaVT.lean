/- Package state: check. -/
import Derived.Test.YtphkdkenopkbbaaVS
namespace Go.Proofs.Ytphkdkenopkbbaa
open Go.ChangeShapes Go.WideShapes Go.ChangeAt Go.RowKit
set_option linter.unusedVariables false
set_option linter.unusedSimpArgs false

abbrev stB (sa sb sd : Int) (p q : Value) (lo ra : Int) : List Value := [.int .i64 sa, .int .i64 sb, .int .i64 sd, p, q, .int .i64 lo, .int .i64 ra]
set_option maxHeartbeats 4000000 in
set_option maxRecDepth 100000 in
theorem check_any5 (v : Value) (s : Sta) (hpn : s.P.length ≤ 9223372036854775807) (hqn : s.Q.length ≤ 9223372036854775807) (w : World) (hS : StI w v s) : Calls Try.prog 26 #[v, .int .i64 16777216] w fun e w' => Kept w w' ∧ CkP (Frm s) e := by
  have HSz : Hid (Frm s → ∀ u, Kept w u → Calls Try.prog 47 #[v] u fun e w' => e = .returned (.int .i64 (szS s)) ∧ Kept u w') := fun hF u ku => size_any v s hF u (hS.kept ku)
  obtain ⟨pv, qv, rfl, hP, hQ⟩ := hS
  have HCP : Hid (∀ u, Kept w u → Calls Try.prog 46 #[pv] u fun e w' => Kept u w' ∧ CkP (Oks s.P) e) := fun u ku => checkMatrices_any pv s.P hpn u (hP.kept ku)
  obtain ⟨pa, pc, rfl, -, -⟩ := hP
  obtain ⟨qa, qc, rfl, hqc, hr⟩ := hQ
  have HR : Hid (∀ (i : Nat) (l : List Mat), s.Q[i]? = some l → ∃ B off la lc, qa = some ⟨B, off, none⟩ ∧ ∀ u, Kept w u → u.cell? ⟨B, off + i, none⟩ = some (.slice la l.length lc) ∧ (l.length ≤ 4 → Calls Try.prog 46 #[.slice la l.length lc] u fun e w' => Kept u w' ∧ CkP (Oks l) e)) := fun i l hi => by
    obtain ⟨B, off, e, h⟩ := hr (by intro e; rw [e] at hi; simp at hi)
    obtain ⟨lv, h1, h2⟩ := h i l hi
    have h4 := fun u (ku : Kept w u) (hl : l.length ≤ 4) => checkMatrices_any lv l (by omega) u (h2.kept ku)
    obtain ⟨la, lc, rfl, -, -⟩ := h2
    exact ⟨B, off, la, lc, e, fun u ku => ⟨(ku.below.cell (p := ⟨B, off + i, none⟩) (World.block_lt_of_cell? _ _ h1)).trans h1, h4 u ku⟩⟩
  obtain ⟨sa, sb, sd, P, Q, lo, ra⟩ := s
  dsimp only at *
  obtain ⟨S, hS⟩ : ∃ S : Sta, (⟨sa, sb, sd, P, Q, lo, ra⟩ : Sta) = S := ⟨_, rfl⟩
  rw [hS] at HSz ⊢
  have HF : Hid (stepB sa = true → stepB sb = true → stepB sd = true → P.length ≤ 64 → Q.length ≤ 64 → Oks P → Qks Q → Frm S) := fun h1 h2 h3 h4 h5 h6 h7 => by rw [← hS]; exact ⟨h1, h2, h3, h4, h5, h6, h7⟩
  have HA : Hid (stepB sa = false → ¬ Frm S) := fun h hF => by rw [← hS] at hF; have := hF.a; rw [show stepB sa = _ from h] at this; cases this
  have HB : Hid (stepB sb = false → ¬ Frm S) := fun h hF => by rw [← hS] at hF; have := hF.b; rw [show stepB sb = _ from h] at this; cases this
  have HD : Hid (stepB sd = false → ¬ Frm S) := fun h hF => by rw [← hS] at hF; have := hF.d; rw [show stepB sd = _ from h] at this; cases this
  have HPl : Hid (Frm S → P.length ≤ 64 ∧ Q.length ≤ 64 ∧ Oks P ∧ Qks Q) := fun hF => by rw [← hS] at hF; exact ⟨hF.pl, hF.ql, hF.p, hF.q⟩
  clear hS hr
  have KA : Hid (∀ u, Calls Try.prog 45 #[.int .i64 sa] u fun e w' => e = .returned (.bool (stepB sa)) ∧ Kept u w') := fun u => isStep_any sa u
  have KB : Hid (∀ u, Calls Try.prog 45 #[.int .i64 sb] u fun e w' => e = .returned (.bool (stepB sb)) ∧ Kept u w') := fun u => isStep_any sb u
  have KD : Hid (∀ u, Calls Try.prog 45 #[.int .i64 sd] u fun e w' => e = .returned (.bool (stepB sd)) ∧ Kept u w') := fun u => isStep_any sd u
  obtain ⟨pl, hpl⟩ : ∃ pl, P.length = pl := ⟨_, rfl⟩
  obtain ⟨n, hn⟩ : ∃ n, Q.length = n := ⟨_, rfl⟩
  rw [hpl] at HCP HF HPl HSz hpn ⊢
  rw [hn] at HF HPl HSz hqc hqn ⊢
  have HNn := hid hn
  have HQC := hid hqc
  clear hpl hn hqc hpn hqn
  obtain ⟨W0, hW0⟩ : ∃ W0, w.alloc (.cells #[.int .i64 sa, .int .i64 sb, .int .i64 sd, .slice pa pl pc, .slice qa n qc, .int .i64 lo, .int .i64 ra] 25) = W0 := ⟨_, rfl⟩
  obtain ⟨M, hM⟩ : ∃ M, w.heap.size = M := ⟨_, rfl⟩
  have k0 : Kept w W0 := by rw [← hW0]; exact (Kept.refl w).alloc _ _
  have HBk : Hid (∀ u, Kept W0 u → Bk u M (stB sa sb sd (.slice pa pl pc) (.slice qa n qc) lo ra)) := fun u ku => Bk.kept (by rw [← hW0, ← hM]; exact Bk.new w (stB sa sb sd (.slice pa pl pc) (.slice qa n qc) lo ra) _) ku
  have HK0 := hid k0
  clear k0
  have e0 := (HBk.out _ (Kept.refl W0)).c 0 _ rfl
  cases hA : stepB sa with
  | false =>
    rw [hA] at KA
    have HNO := hid (HA.out hA)
    clear hA
    go_enter Try.func26, Try.ntmps26
    go_wp2_with (first | (go_at_call 45; refine (KA.out _).mono ?_; rintro e u1 ⟨rfl, k1⟩) | (go_at_call 44; refine (wantForm_no _).mono ?_; rintro e u2 ⟨rfl, k2⟩))
    exact ⟨rfl, HK0.out.trans (k1.trans k2), .inr ⟨rfl, HNO.out⟩⟩
  | true =>
  rw [hA] at KA
  cases hB : stepB sb with
  | false =>
    rw [hB] at KB
    have HNO := hid (HB.out hB)
    clear hA hB
    go_enter Try.func26, Try.ntmps26
    go_wp2_with fail
    go_at_call 45
    refine (KA.out _).mono ?_
    rintro e u1 ⟨rfl, k1⟩
    have e1 := (HBk.out _ k1).c 1 _ rfl
    go_wp2_with (first | (go_at_call 45; refine (KB.out _).mono ?_; rintro e u2 ⟨rfl, k2⟩) | (go_at_call 44; refine (wantForm_no _).mono ?_; rintro e u3 ⟨rfl, k3⟩))
    exact ⟨rfl, HK0.out.trans ((k1.trans k2).trans k3), .inr ⟨rfl, HNO.out⟩⟩
  | true =>
  rw [hB] at KB
  cases hD : stepB sd with
  | false =>
    rw [hD] at KD
    have HNO := hid (HD.out hD)
    clear hA hB hD
    go_enter Try.func26, Try.ntmps26
    go_wp2_with fail
    go_at_call 45
    refine (KA.out _).mono ?_
    rintro e u1 ⟨rfl, k1⟩
    have e1 := (HBk.out _ k1).c 1 _ rfl
    go_wp2_with fail
    go_at_call 45
    refine (KB.out _).mono ?_
    rintro e u2 ⟨rfl, k2⟩
    have e2 := (HBk.out _ (k1.trans k2)).c 2 _ rfl
    go_wp2_with (first | (go_at_call 45; refine (KD.out _).mono ?_; rintro e u3 ⟨rfl, k3⟩) | (go_at_call 44; refine (wantForm_no _).mono ?_; rintro e u4 ⟨rfl, k4⟩))
    exact ⟨rfl, HK0.out.trans (((k1.trans k2).trans k3).trans k4), .inr ⟨rfl, HNO.out⟩⟩
  | true =>
  rw [hD] at KD
  have HF2 := hid (HF.out hA hB hD)
  clear hA hB hD HF HA HB HD
  go_enter Try.func26, Try.ntmps26
  go_wp2_with fail
  go_at_call 45
  refine (KA.out _).mono ?_
  rintro e u1 ⟨rfl, k1⟩
  have e1 := (HBk.out _ k1).c 1 _ rfl
  go_wp2_with fail
  go_at_call 45
  refine (KB.out _).mono ?_
  rintro e u2 ⟨rfl, k2⟩
  have e2 := (HBk.out _ (k1.trans k2)).c 2 _ rfl
  go_wp2_with fail
  go_at_call 45
  refine (KD.out _).mono ?_
  rintro e u3 ⟨rfl, k3⟩
  go_wp2_with fail
  go_at_call 44
  refine (wantForm_ok _).mono ?_
  rintro e u4 ⟨rfl, k4⟩
  have K4 := hid (((k1.trans k2).trans k3).trans k4)
  clear k1 k2 k3 k4 e0 e1 e2 KA KB KD hM
  have e3 := (HBk.out _ K4.out).c 3 _ rfl
  have e4 := (HBk.out _ K4.out).c 4 _ rfl
  rcases Nat.lt_or_ge 64 pl with hp | hp
  · have hpd : decide ((pl : Int) ≤ 64) = false := decide_eq_false (by omega)
    have HNO := hid (show ¬ Frm S from fun h => by have := (HPl.out h).1; omega)
    clear hp
    go_wp2_with (first | (go_at_call 44; refine (wantForm_no _).mono ?_; rintro e u5 ⟨rfl, k5⟩))
    exact ⟨rfl, HK0.out.trans (K4.out.trans k5), .inr ⟨rfl, HNO.out⟩⟩
  have hpd : decide ((pl : Int) ≤ 64) = true := decide_eq_true (by omega)
  rcases Nat.lt_or_ge 64 n with hq | hq
  · have hqd : decide ((n : Int) ≤ 64) = false := decide_eq_false (by omega)
    have HNO := hid (show ¬ Frm S from fun h => by have := (HPl.out h).2.1; omega)
    clear hp hq
    go_wp2_with (first | (go_at_call 44; refine (wantForm_no _).mono ?_; rintro e u5 ⟨rfl, k5⟩))
    exact ⟨rfl, HK0.out.trans (K4.out.trans k5), .inr ⟨rfl, HNO.out⟩⟩
  have hqd : decide ((n : Int) ≤ 64) = true := decide_eq_true (by omega)
  have HPQ := hid (show pl ≤ 64 ∧ n ≤ 64 from ⟨hp, hq⟩)
  clear hp hq
  go_wp2_with fail
  go_at_call 44
  refine (wantForm_ok _).mono ?_
  rintro e u5 ⟨rfl, k5⟩
  have K5 := hid (K4.out.trans k5)
  clear k5 e3 e4 hpd hqd
  have e3 := (HBk.out _ K5.out).c 3 _ rfl
  have e4 := (HBk.out _ K5.out).c 4 _ rfl
  have HC5 := hid (HCP.out u5 (HK0.out.trans K5.out))
  go_wp2_with fail
  go_at_call 46
  refine HC5.out.mono ?_
  rintro e u6 ⟨k6, hck⟩
  rcases (show _ ∨ _ from hck).symm with ⟨rfl, hno⟩ | ⟨rfl, hok⟩
  · have HNO := hid (show ¬ Frm S from fun h => hno (HPl.out h).2.2.1)
    clear hno
    go_wp2_with fail
    exact ⟨rfl, HK0.out.trans (K5.out.trans k6), .inr ⟨rfl, HNO.out⟩⟩
  have HOK := hid hok
  have K6 := hid (K5.out.trans k6)
  clear k6 hok HC5 HCP K4 K5 e3 e4
  have e4 := (HBk.out _ K6.out).c 4 _ rfl
  go_wp2_with fail
  go_loopw [37] (fun iv wr => ∃ i : Nat, i ≤ n ∧ iv = .int .i64 (i : Int) ∧ Kept W0 wr ∧ ∀ (x : Nat) (l : List Mat), x < i → Q[x]? = some l → l.length ≤ 4 ∧ Oks l) (fun iv _ => n - (intOf iv).toNat)
  case atStart => exact ⟨0, Nat.zero_le _, rfl, K6.out, fun x l hx => by omega⟩
  case round =>
    clear e4
    obtain ⟨i, hi, rfl, kr, hall⟩ := hrel
    have HAL := hid hall
    clear hall
    by_cases hin : i < n
    · obtain ⟨l, hl⟩ : ∃ l, Q[i]? = some l := ⟨_, List.getElem?_eq_getElem (by rw [HNn.out]; exact hin)⟩
      obtain ⟨B, off, la, lc, rfl, hc⟩ := HR.out i l hl
      obtain ⟨c0, hK⟩ := hc wr (HK0.out.trans kr)
      have HKc := hid (fun u ku => (hc u ku).2)
      have hbd : (0 : Int) ≤ (i : Int) ∧ (i : Int) < (n : Int) := by omega
      have hbd2 : (i : Int) < (n : Int) := by omega
      have z2 : IntKind.i64.wrap ((i : Int) + 1) = (i : Int) + 1 := by have := HPQ.out; rw [wrap_i64]; omega
      have hkr := hid kr
      have hin2 := hid hin
      have hl2 := hid hl
      obtain ⟨m, hm⟩ : ∃ m, l.length = m := ⟨_, rfl⟩
      rw [hm] at c0 HKc
      have HM := hid hm
      clear hc hK kr HR hl hin hm hi
      by_cases h4 : m ≤ 4
      · have h4d : decide ((m : Int) ≤ 4) = true := decide_eq_true (by omega)
        have H4 := hid h4
        clear h4
        go_wp2_with fail
        go_at_call 44
        refine (wantForm_ok _).mono ?_
        rintro e w5 ⟨rfl, k5⟩
        have HKd := hid (HKc.out w5 (HK0.out.trans (hkr.out.trans k5)) H4.out)
        have K5 := hid (hkr.out.trans k5)
        clear k5
        go_wp2_with fail
        go_at_call 46
        refine HKd.out.mono ?_
        rintro e u6 ⟨k6, ⟨rfl, hok⟩ | ⟨rfl, hno⟩⟩
        · have HO2 := hid hok
          have K6 := hid (K5.out.trans k6)
          clear hok k6
          go_wp2_with fail
          go_roundw
          case rel => exact ⟨i + 1, by have := hin2.out; omega, by go_num, K6.out, fun x m2 hx hm2 => (Nat.lt_succ_iff_lt_or_eq.1 hx).elim (fun h => HAL.out x m2 h hm2) (fun h => by subst h; have e := hl2.out; rw [e] at hm2; cases hm2; exact ⟨by rw [HM.out]; exact H4.out, HO2.out⟩)⟩
          case measure => have := hin2.out; simp [intOf]; omega
        · have HNO := hid (show ¬ Frm S from fun h => hno ((HPl.out h).2.2.2 i l hl2.out).2)
          clear hno
          go_wp2_with fail
          exact ⟨rfl, HK0.out.trans (K5.out.trans k6), .inr ⟨rfl, HNO.out⟩⟩
      · have h4d : decide ((m : Int) ≤ 4) = false := decide_eq_false (by omega)
        have HNO := hid (show ¬ Frm S from fun h => h4 (by rw [← HM.out]; exact ((HPl.out h).2.2.2 i l hl2.out).1))
        clear h4
        go_wp2_with (first | (go_at_call 44; refine (wantForm_no _).mono ?_; rintro e w5 ⟨rfl, k5⟩))
        exact ⟨rfl, HK0.out.trans (hkr.out.trans k5), .inr ⟨rfl, HNO.out⟩⟩
    · obtain rfl : i = n := by omega
      have hge : ¬ ((i : Int) < (i : Int)) := by omega
      have hFr : Frm S := HF2.out HPQ.out.1 HPQ.out.2 HOK.out (fun x l hx => HAL.out x l (by have := (List.getElem?_eq_some_iff.1 hx).1; have := HNn.out; omega) hx)
      have HFr := hid hFr
      have HZ := hid (HSz.out hFr wr (HK0.out.trans kr))
      have hsz := hFr.sz
      have hzd : decide (szS S ≤ 16777216) = true := decide_eq_true (by omega)
      obtain ⟨e0, e1, e2, e3, e4, e5, e6⟩ : _ ∧ _ ∧ _ ∧ _ ∧ _ ∧ _ ∧ _ := ⟨(HBk.out _ kr).c 0 _ rfl, (HBk.out _ kr).c 1 _ rfl, (HBk.out _ kr).c 2 _ rfl, (HBk.out _ kr).c 3 _ rfl, (HBk.out _ kr).c 4 _ rfl, (HBk.out _ kr).c 5 _ rfl, (HBk.out _ kr).c 6 _ rfl⟩
      have hkr := hid kr
      clear hFr hsz kr HSz HF2
      generalize szS S = zs at *
      go_wp2_with (first | (go_at_call 47; refine HZ.out.mono ?_; rintro e w5 ⟨rfl, k5⟩) | (go_at_call 29; refine (want_ok _ _ _).mono ?_; rintro e w6 ⟨rfl, k6⟩))
      go_end0
      exact ⟨HK0.out.trans ((hkr.out.trans k5).trans k6), .inl ⟨rfl, HFr.out⟩⟩
end Go.Proofs.Ytphkdkenopkbbaa
