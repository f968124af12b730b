/- Package disk: put, over a file that is there. -/
import Derived.Test.YthaiejmajhmahabDLT
namespace Go.Proofs.Ythaiejmajhmahab
open Go.ChangeShapes Go.WideShapes Go.ChangeAt Go.RowKit Go.Maps
set_option linter.unusedVariables false
set_option linter.unusedSimpArgs false

set_option maxHeartbeats 4000000 in
set_option maxRecDepth 100000 in
theorem put_old (kind : Int) (hk : kind = 1 ∨ kind = 2) (s : ByteArray) (bval : Value) (b : List UInt8) (O : Nat → Prop) (B : Nat) (a : Da) (d : Dk) (w : World) (hd : DSt w O B a d) (q : Nat) (hq : Bd q d) (hq8 : q + b.length + 2 < 99999999) (hb : Rd w bval b) (hbO : ∀ c, ob bval c → ¬ O c) (f : Nat) (he : fndE d s = 0) (hf : fndF d s = some f) (hfn : d.nN s = some f) (hok : okN s = true) :
    Calls Try.prog 18 #[.pointer (some ⟨B, 0, none⟩), .int .i64 kind, .string s, bval] w fun e w' => ∃ E, e = .returned (.int .i64 E) ∧ Turn w O B a (q + 2 + b.length) (PutR a.Fs kind s b d E) w' := by
  have HF := hid (find_any O B a d s w hd)
  have HD := hid hd
  have HQ := hid hq
  have HB := hid hb
  have HBO := hid hbO
  obtain ⟨ab, cb, hbv⟩ := hb.form
  obtain ⟨nb, hnb⟩ : ∃ nb, b.length = nb := ⟨_, rfl⟩
  rw [hnb] at hbv
  subst hbv
  rw [he, hf] at HF
  have HOK := hid hok
  have HE := hid he
  have HFN := hid hfn
  have hby := fun (u : World) (k : Kept w u) => bytes_any a.mN d.nn d.nN d.cn u (hd.kept k).mN (by have := hq.nn; omega) q (by omega) fun t g h => ⟨by
    obtain ⟨ao, c, e⟩ := ((hd.kept k).fls.rn g (hd.inN t g h).1).form
    exact ⟨ao, c, _, by rw [← e]; exact (hd.kept k).fls.blk g (hd.inN t g h).1⟩, hq.cn g⟩
  obtain ⟨N, hN, hNl, hNr⟩ := len_run hd.mN
  have HBY := hid hby
  have HN := hid hN
  have HNL := hid (show N.length < 99999999 by have := hq.nn; omega)
  have HLEN := hid hNr
  clear hb hbO hby hN hNl hNr hq hd he hf hok hfn
  simp only [pv, Option.map_some] at HF
  go_enter Try.func18, Try.ntmps18
  go_wp2_with (first | (go_at_call 21; refine HF.out.mono ?_; rintro e u1 ⟨rfl, k1⟩))
  have hd1 := HD.out.kept k1
  have HBY := hid fun u k => HBY.out u (k1.trans k)
  have HLEN := hid fun u k => HLEN.out u (k1.trans k)
  refine wp_region_late [] (fun u => (u.cell? ⟨B, 5, none⟩ = some (.map (some a.mN))) ∧ Kept u1 u) (by kernel_rfl) (show _ ∧ _ from ⟨hd1.blk.cell 5 _ rfl, (Kept.refl u1).drew⟩) (fun hHeld => ?_)
  refine wpAnyD_take (i := 0) (v := ?_) rfl (by kernel_rfl) (by kernel_rfl) (by kernel_rfl) (by kernel_rfl) (fun _ _ _ h => h) (Or.inl ⟨by rfl, ?hyq0⟩) hHeld ?_
  case hyq0 => (intro w hSw; (try dsimp only at hSw); go_simp; try (with_reducible rfl))
  (try simp only [Act.put, List.getElem_toArray, List.getElem_cons_succ, List.getElem_cons_zero, List.setIfInBounds_toArray, List.set_cons_zero, List.set_cons_succ])
  refine wpAnyD_take (i := 1) (v := ?_) rfl (by kernel_rfl) (by kernel_rfl) (by kernel_rfl) (by kernel_rfl) (fun _ _ _ h => h) (Or.inl ⟨by rfl, ?hyq1⟩) hHeld ?_
  case hyq1 => (intro w hSw; (try dsimp only at hSw); go_simp; try (with_reducible rfl))
  (try simp only [Act.put, List.getElem_toArray, List.getElem_cons_succ, List.getElem_cons_zero, List.setIfInBounds_toArray, List.set_cons_zero, List.set_cons_succ])
  refine wpAnyD_take (i := 2) (v := ?_) rfl (by kernel_rfl) (by kernel_rfl) (by kernel_rfl) (by kernel_rfl) (fun _ _ _ h => h) (Or.inl ⟨by rfl, ?hyq2⟩) hHeld ?_
  case hyq2 => (intro w hSw; (try dsimp only at hSw); go_simp; try (with_reducible rfl))
  (try simp only [Act.put, List.getElem_toArray, List.getElem_cons_succ, List.getElem_cons_zero, List.setIfInBounds_toArray, List.set_cons_zero, List.set_cons_succ])
  refine wpAnyD_take (i := 3) (v := ?_) rfl (by kernel_rfl) (by kernel_rfl) (by kernel_rfl) (by kernel_rfl) (fun _ _ _ h => h) (Or.inl ⟨by rfl, ?hyq3⟩) hHeld ?_
  case hyq3 => (intro w hSw; (try dsimp only at hSw); go_simp; try (with_reducible rfl))
  (try simp only [Act.put, List.getElem_toArray, List.getElem_cons_succ, List.getElem_cons_zero, List.setIfInBounds_toArray, List.set_cons_zero, List.set_cons_succ])
  refine wpAnyD_take (i := 4) (v := .int .i64 N.length) rfl (by kernel_rfl) (by kernel_rfl) (by kernel_rfl) (by kernel_rfl) (fun _ _ _ h => h) (Or.inl ⟨by rfl, ?hyq4⟩) hHeld ?_
  case hyq4 => (intro w hSw; have hlen4 := HLEN.out w hSw.2; (try dsimp only at hSw); go_simp)
  (try simp only [Act.put, List.getElem_toArray, List.getElem_cons_succ, List.getElem_cons_zero, List.setIfInBounds_toArray, List.set_cons_zero, List.set_cons_succ])
  refine wpAnyD_take (i := 5) (v := ?_) rfl (by kernel_rfl) (by kernel_rfl) (by kernel_rfl) (by kernel_rfl) (fun _ _ _ h => h) (Or.inl ⟨by rfl, ?hyr5⟩) hHeld ?_
  case hyr5 => (intro w hSw; (try dsimp only at hSw); go_simp; try (with_reducible rfl))
  (try simp only [Act.put, List.getElem_toArray, List.getElem_cons_succ, List.getElem_cons_zero, List.setIfInBounds_toArray, List.set_cons_zero, List.set_cons_succ])
  refine wpAnyD_take (i := 6) (v := ?_) rfl (by kernel_rfl) (by kernel_rfl) (by kernel_rfl) (by kernel_rfl) (fun _ _ _ h => h) (Or.inl ⟨by rfl, ?hyr6⟩) hHeld ?_
  case hyr6 => (intro w hSw; (try dsimp only at hSw); go_simp; try (with_reducible rfl))
  (try simp only [Act.put, List.getElem_toArray, List.getElem_cons_succ, List.getElem_cons_zero, List.setIfInBounds_toArray, List.set_cons_zero, List.set_cons_succ])
  refine wpAnyD_take (i := 7) (v := ?_) rfl (by kernel_rfl) (by kernel_rfl) (by kernel_rfl) (by kernel_rfl) (fun _ _ _ h => h) (Or.inl ⟨by rfl, ?hyr7⟩) hHeld ?_
  case hyr7 => (intro w hSw; (try dsimp only at hSw); go_simp; try (with_reducible rfl))
  (try simp only [Act.put, List.getElem_toArray, List.getElem_cons_succ, List.getElem_cons_zero, List.setIfInBounds_toArray, List.set_cons_zero, List.set_cons_succ])
  refine wpAnyD_take (i := 8) (v := ?_) rfl (by kernel_rfl) (by kernel_rfl) (by kernel_rfl) (by kernel_rfl) (fun _ _ _ h => h) (Or.inl ⟨by rfl, ?hyr8⟩) hHeld ?_
  case hyr8 => (intro w hSw; (try dsimp only at hSw); go_simp; try (with_reducible rfl))
  (try simp only [Act.put, List.getElem_toArray, List.getElem_cons_succ, List.getElem_cons_zero, List.setIfInBounds_toArray, List.set_cons_zero, List.set_cons_succ])
  refine wpAnyD_take (i := 10) (v := ?_) rfl (by kernel_rfl) (by kernel_rfl) (by kernel_rfl) (by kernel_rfl) (fun _ _ _ h => h) (Or.inl ⟨by rfl, ?hyr10⟩) hHeld ?_
  case hyr10 => (intro w hSw; (try dsimp only at hSw); go_simp; try (with_reducible rfl))
  (try simp only [Act.put, List.getElem_toArray, List.getElem_cons_succ, List.getElem_cons_zero, List.setIfInBounds_toArray, List.set_cons_zero, List.set_cons_succ])
  refine wpAnyD_take (i := 11) (v := ?_) rfl (by kernel_rfl) (by kernel_rfl) (by kernel_rfl) (by kernel_rfl) (fun _ _ _ h => h) (Or.inl ⟨by rfl, ?hyr11⟩) hHeld ?_
  case hyr11 => (intro w hSw; (try dsimp only at hSw); go_simp; try (with_reducible rfl))
  (try simp only [Act.put, List.getElem_toArray, List.getElem_cons_succ, List.getElem_cons_zero, List.setIfInBounds_toArray, List.set_cons_zero, List.set_cons_succ])
  refine wpAnyD_step (i := 9) (by kernel_rfl) rfl (fun K hK9 => ?_)
  go_simp
  go_wp2_with fail
  refine ((HBY.out _ ((Kept.refl u1).drew))).mono ?_
  rintro e u9 ⟨⟨N2, hN2, -, hs9, rfl⟩, k9⟩
  refine hK9.out _ _ ((show _ ∧ _ from ⟨(hd1.kept (((Kept.refl u1).drew).trans (by assumption))).blk.cell 5 _ rfl, ((Kept.refl u1).drew).trans (by assumption)⟩)) (fun hHeld9 => ?_)
  clear hK9 K
  refine wpAnyD_take (i := 12) (v := ?_) rfl (by kernel_rfl) (by kernel_rfl) (by kernel_rfl) (by kernel_rfl) (fun _ _ _ h => h) (Or.inl ⟨by rfl, ?hys12⟩) hHeld9 ?_
  case hys12 => (intro w hSw; (try dsimp only at hSw); go_simp; try (with_reducible rfl))
  (try simp only [Act.put, List.getElem_toArray, List.getElem_cons_succ, List.getElem_cons_zero, List.setIfInBounds_toArray, List.set_cons_zero, List.set_cons_succ])
  refine wpAnyD_take (i := 13) (v := ?_) rfl (by kernel_rfl) (by kernel_rfl) (by kernel_rfl) (by kernel_rfl) (fun _ _ _ h => h) (Or.inl ⟨by rfl, ?hys13⟩) hHeld9 ?_
  case hys13 => (intro w hSw; (try dsimp only at hSw); go_simp; try (with_reducible rfl))
  (try simp only [Act.put, List.getElem_toArray, List.getElem_cons_succ, List.getElem_cons_zero, List.setIfInBounds_toArray, List.set_cons_zero, List.set_cons_succ])
  refine wpAnyD_take (i := 14) (v := ?_) rfl (by kernel_rfl) (by kernel_rfl) (by kernel_rfl) (by kernel_rfl) (fun _ _ _ h => h) (Or.inl ⟨by rfl, ?hys14⟩) hHeld9 ?_
  case hys14 => (intro w hSw; (try dsimp only at hSw); go_simp; try (with_reducible rfl))
  (try simp only [Act.put, List.getElem_toArray, List.getElem_cons_succ, List.getElem_cons_zero, List.setIfInBounds_toArray, List.set_cons_zero, List.set_cons_succ])
  refine wpAnyD_done (by kernel_rfl) ?_ _
  (try simp only [Act.put, List.getElem_toArray, List.getElem_cons_succ, List.getElem_cons_zero, List.setIfInBounds_toArray, List.set_cons_zero, List.set_cons_succ])
  obtain ⟨T, hT⟩ : ∃ T, sumN d.cn N2 = T := ⟨_, rfl⟩
  have hTN : sumN d.cn N = T := by rw [← hT]; exact sumN_full HN.out hN2
  rw [hT] at hs9 ⊢
  have hNB := hid (show nb < 99999999 by omega)
  obtain ⟨T2, hT2⟩ : ∃ T2 : Int, T2 = (T : Int) + nb := ⟨_, rfl⟩
  have hw1 : IntKind.i64.wrap ((T : Int) + nb) = T2 := by
    rw [wrap_i64, hT2]
    unfold wrap64
    have := hNB.out
    omega
  rw [hw1]
  obtain ⟨n, hn⟩ : ∃ n, N.length = n := ⟨_, rfl⟩
  rw [hn] at HNL ⊢
  obtain ⟨F1, hF1⟩ : ∃ F1 : Int, F1 = (n : Int) := ⟨_, rfl⟩
  rw [← hF1]
  have HF1 := hid hF1
  clear hF1
  have k9 := k1.trans (((Kept.refl u1).drew).trans k9)
  have hd9 := HD.out.kept k9
  have c3 := hd9.blk.cell 3 _ rfl
  have c4 := hd9.blk.cell 4 _ rfl
  obtain ⟨rf, hrf⟩ : ∃ rf, d.rf = rf := ⟨_, rfl⟩
  obtain ⟨rb, hrb⟩ : ∃ rb, d.rb = rb := ⟨_, rfl⟩
  rw [hrf] at c3
  rw [hrb] at c4
  have HTN := hid hTN
  have Hn := hid hn
  have HRF := hid hrf
  have HRB := hid hrb
  have HNB2 := hid hnb
  have HT18 := hid hs9
  have HK9 := hid k9
  have HD9 := hid hd9
  have HT2 := hid hT2
  clear hT2 hT hTN hw1 hn hrf hrb hnb hs9 k9 hd9 hHeld hHeld9 hN2 hd1 k1
  have cF := HD9.out.fls.blk f (HD9.out.inN s f HFN.out).1
  obtain ⟨aF, c9F, hFv⟩ := (HD9.out.fls.rn f (HD9.out.inN s f HFN.out).1).form
  obtain ⟨lf, hlf⟩ : ∃ lf, (d.cn f).length = lf := ⟨_, rfl⟩
  rw [hlf] at hFv
  have cF0 := cF.cell 0 _ rfl
  rw [hFv] at cF0
  have hlq : lf < 99999999 := by have := HQ.out.cn f; omega
  have HLF := hid hlf
  clear cF hFv hlf
  have hkk := hk
  rcases hkk with rfl | rfl
  · obtain ⟨T3, hT3⟩ : ∃ T3 : Int, T3 = T2 - lf := ⟨_, rfl⟩
    have hw3 : wrap64 (T2 - lf) = T3 := by
      rw [hT3, HT2.out]
      unfold wrap64
      have := hNB.out
      have := HT18.out
      have := hlq
      omega
    have HT3 := hid (show (T3 : Int) = (T : Int) + nb - lf by rw [hT3, HT2.out])
    clear hT3 hlq
    by_cases h1 : rf < F1
    · go_wp2_with fail
      go_ret
      refine ⟨_, rfl, O, a, d, (Stp.refl w O).kept HK9.out, HD9.out, HQ.out.mono (by omega), fun f h => h, .inr (.inr ⟨HE.out, N, f, HN.out, HFN.out, .inl ⟨rfl, rfl, .inl ?_⟩⟩)⟩
      rw [HRF.out, Hn.out, ← HF1.out]
      exact h1
    · by_cases h2 : rb < T3
      · go_wp2_with fail
        go_ret
        refine ⟨_, rfl, O, a, d, (Stp.refl w O).kept HK9.out, HD9.out, HQ.out.mono (by omega), fun f h => h, .inr (.inr ⟨HE.out, N, f, HN.out, HFN.out, .inl ⟨rfl, rfl, .inr ?_⟩⟩)⟩
        rw [HRB.out, HTN.out, HNB2.out]
        have := HT3.out
        have := HLF.out
        simp
        omega
      · have hb9 : Rd u9 (.slice ab nb cb) b := HB.out.kept HK9.out
        have HCL := hid (clone_any (.slice ab nb cb) b u9 hb9 (by omega))
        have Hh1 := hid h1
        have Hh2 := hid h2
        clear hb9
        go_wp2_with fail
        clear h1 h2 cF0
        go_at_call 28
        refine HCL.out.mono ?_
        rintro e u11 ⟨v11, rfl, r11, k11, o11⟩
        obtain ⟨S3, D3, X3⟩ := fresh_wk HD9.out k11 v11 ⟨1, s, ⟨#[]⟩, nb, f, b⟩ r11 o11 (HD9.out.inN s f HFN.out).1 (okN_size HOK.out) (show (⟨#[]⟩ : ByteArray).size ≤ 32 from by decide)
        obtain ⟨av, cv, hv⟩ := r11.form
        have HDO := hid (do_any _ B a _ ⟨1, s, ⟨#[]⟩, nb, f, b⟩ v11 u11 D3 X3 (Int.natCast_nonneg nb) HQ.out (by simp; omega))
        have BD3 := hid (HQ.out.do_ ⟨1, s, ⟨#[]⟩, nb, f, b⟩ (Int.natCast_nonneg nb))
        have HS3 := hid (((Stp.refl w O).kept HK9.out).trans S3)
        rw [HNB2.out] at hv
        clear S3 D3 X3 HCL r11 k11 o11
        subst hv
        go_wp2_with fail
        go_at_call 22
        refine HDO.out.mono ?_
        rintro e u12 ⟨rfl, O4, a4, s4, d4, hF4⟩
        have HBU := hid (burn_disk O4 B a4 _ u12 d4)
        have HS4 := hid (HS3.out.trans s4)
        have HF4 := hid hF4
        clear d4 s4 hF4 HDO
        go_wp2_with fail
        go_at_call 23
        refine HBU.out.mono ?_
        rintro e u13 ⟨rfl, s5, d5⟩
        go_wp2_with fail
        go_ret
        refine ⟨0, rfl, O4, a4, _, HS4.out.trans s5, d5, (BD3.out.burn).mono (by simp <;> omega), fun g hg => HF4.out g hg, .inr (.inr ⟨HE.out, N, f, HN.out, HFN.out, .inr ⟨rfl, ⟨?_, ?_⟩, ?_⟩⟩)⟩
        · rw [HRF.out, Hn.out, ← HF1.out]
          exact Hh1.out
        · rw [HRB.out, HTN.out, HNB2.out]
          have := HT3.out
          have := HLF.out
          have := Hh2.out
          simp
          omega
        · rw [HNB2.out]
  · obtain ⟨T3, hT3⟩ : ∃ T3 : Int, T3 = T2 := ⟨_, rfl⟩
    have HT3 := hid (show (T3 : Int) = (T : Int) + nb - (0 : Nat) by rw [hT3, HT2.out]; simp)
    rw [← hT3]
    clear hT3 hlq
    by_cases h1 : rf < F1
    · go_wp2_with fail
      go_ret
      refine ⟨_, rfl, O, a, d, (Stp.refl w O).kept HK9.out, HD9.out, HQ.out.mono (by omega), fun f h => h, .inr (.inr ⟨HE.out, N, f, HN.out, HFN.out, .inl ⟨rfl, rfl, .inl ?_⟩⟩)⟩
      rw [HRF.out, Hn.out, ← HF1.out]
      exact h1
    · by_cases h2 : rb < T3
      · go_wp2_with fail
        go_ret
        refine ⟨_, rfl, O, a, d, (Stp.refl w O).kept HK9.out, HD9.out, HQ.out.mono (by omega), fun f h => h, .inr (.inr ⟨HE.out, N, f, HN.out, HFN.out, .inl ⟨rfl, rfl, .inr ?_⟩⟩)⟩
        rw [HRB.out, HTN.out, HNB2.out]
        have := HT3.out
        have := HLF.out
        simp
        omega
      · have hb9 : Rd u9 (.slice ab nb cb) b := HB.out.kept HK9.out
        have HCL := hid (clone_any (.slice ab nb cb) b u9 hb9 (by omega))
        have Hh1 := hid h1
        have Hh2 := hid h2
        clear hb9
        go_wp2_with fail
        clear h1 h2 cF0
        go_at_call 28
        refine HCL.out.mono ?_
        rintro e u11 ⟨v11, rfl, r11, k11, o11⟩
        obtain ⟨S3, D3, X3⟩ := fresh_wk HD9.out k11 v11 ⟨2, s, ⟨#[]⟩, nb, f, b⟩ r11 o11 (HD9.out.inN s f HFN.out).1 (okN_size HOK.out) (show (⟨#[]⟩ : ByteArray).size ≤ 32 from by decide)
        obtain ⟨av, cv, hv⟩ := r11.form
        have HDO := hid (do_any _ B a _ ⟨2, s, ⟨#[]⟩, nb, f, b⟩ v11 u11 D3 X3 (Int.natCast_nonneg nb) HQ.out (by simp; omega))
        have BD3 := hid (HQ.out.do_ ⟨2, s, ⟨#[]⟩, nb, f, b⟩ (Int.natCast_nonneg nb))
        have HS3 := hid (((Stp.refl w O).kept HK9.out).trans S3)
        rw [HNB2.out] at hv
        clear S3 D3 X3 HCL r11 k11 o11
        subst hv
        go_wp2_with fail
        go_at_call 22
        refine HDO.out.mono ?_
        rintro e u12 ⟨rfl, O4, a4, s4, d4, hF4⟩
        have HBU := hid (burn_disk O4 B a4 _ u12 d4)
        have HS4 := hid (HS3.out.trans s4)
        have HF4 := hid hF4
        clear d4 s4 hF4 HDO
        go_wp2_with fail
        go_at_call 23
        refine HBU.out.mono ?_
        rintro e u13 ⟨rfl, s5, d5⟩
        go_wp2_with fail
        go_ret
        refine ⟨0, rfl, O4, a4, _, HS4.out.trans s5, d5, (BD3.out.burn).mono (by simp <;> omega), fun g hg => HF4.out g hg, .inr (.inr ⟨HE.out, N, f, HN.out, HFN.out, .inr ⟨rfl, ⟨?_, ?_⟩, ?_⟩⟩)⟩
        · rw [HRF.out, Hn.out, ← HF1.out]
          exact Hh1.out
        · rw [HRB.out, HTN.out, HNB2.out]
          have := HT3.out
          have := HLF.out
          have := Hh2.out
          simp
          omega
        · rw [HNB2.out]
theorem put_any (kind : Int) (hk : kind = 1 ∨ kind = 2) (s : ByteArray) (bval : Value) (b : List UInt8) (O : Nat → Prop) (B : Nat) (a : Da) (d : Dk) (w : World) (hd : DSt w O B a d) (q : Nat) (hq : Bd q d) (hq8 : q + b.length + 2 < 99999999) (hb : Rd w bval b) (hbO : ∀ c, ob bval c → ¬ O c) :
    Calls Try.prog 18 #[.pointer (some ⟨B, 0, none⟩), .int .i64 kind, .string s, bval] w fun e w' => ∃ E, e = .returned (.int .i64 E) ∧ Turn w O B a (q + 2 + b.length) (PutR a.Fs kind s b d E) w' := by
  rcases fndE_cases d s with h | h | ⟨h1, h2, h3⟩ | ⟨h1, f, h2, h3, h4⟩
  · exact put_bad kind hk s bval b O B a d w hd q hq hq8 hb hbO (.inl h)
  · exact put_bad kind hk s bval b O B a d w hd q hq hq8 hb hbO (.inr h)
  · exact put_new kind hk s bval b O B a d w hd q hq hq8 hb hbO h1 h2 h3
  · exact put_old kind hk s bval b O B a d w hd q hq hq8 hb hbO f h1 h2 h3 h4
end Go.Proofs.Ythaiejmajhmahab
