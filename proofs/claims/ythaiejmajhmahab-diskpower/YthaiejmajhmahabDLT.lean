/- Package disk: put. -/
import Derived.Test.YthaiejmajhmahabDLS
namespace Go.Proofs.Ythaiejmajhmahab
open Go.ChangeShapes Go.WideShapes Go.ChangeAt Go.RowKit Go.Maps
set_option linter.unusedVariables false
set_option linter.unusedSimpArgs false

/-- What put makes of a disk: F are the files that were there. -/
def PutR (F : Nat → Prop) (kind : Int) (s : ByteArray) (b : List UInt8) (d : Dk) (E : Int) (d' : Dk) : Prop :=
  (E = fndE d s ∧ (E = 61 ∨ E = 63) ∧ d' = d) ∨
  (fndE d s = 60 ∧ ∃ N, Full d.nN N ∧ ((E = 62 ∧ d' = d ∧ (d.rf < N.length + 1 ∨ d.rb < sumN d.cn N + b.length)) ∨
    (E = 0 ∧ (N.length + 1 ≤ d.rf ∧ sumN d.cn N + b.length ≤ d.rb) ∧ ∃ f, ¬ F f ∧ d' = burnD (doD ⟨kind, s, ⟨#[]⟩, b.length, f, b⟩ (doD ⟨3, ⟨#[]⟩, s, 0, f, []⟩ { d with cn := up d.cn f [], cf := up d.cf f [] }))))) ∨
  (fndE d s = 0 ∧ ∃ N f, Full d.nN N ∧ d.nN s = some f ∧ ((E = 62 ∧ d' = d ∧ (d.rf < N.length ∨ d.rb < sumN d.cn N + b.length - (if kind = 1 then (d.cn f).length else 0 : Nat))) ∨
    (E = 0 ∧ ((N.length : Int) ≤ d.rf ∧ (sumN d.cn N + b.length : Int) - (if kind = 1 then (d.cn f).length else 0 : Nat) ≤ d.rb) ∧ d' = burnD (doD ⟨kind, s, ⟨#[]⟩, b.length, f, b⟩ d))))
/-- A new slice becomes a work's. -/
theorem fresh_wk {w w' : World} {O : Nat → Prop} {B : Nat} {a : Da} {d : Dk} (h : DSt w O B a d) (k : Kept w w') (v : Value) (x : Wk) (hr : Rb w' v x.bytes) (ho : ∀ c, ob v c → w.heap.size ≤ c) (hf : a.Fs x.file) (hn : x.nm.size ≤ 32) (ht : x.to_.size ≤ 32) :
    Stp w O w' (fun c => O c ∨ ob v c) ∧ DSt w' (fun c => O c ∨ ob v c) B a d ∧ WkOk w' (fun c => O c ∨ ob v c) a x v := by
  have h' := h.kept k
  refine ⟨⟨k.kx _, fun c hc => hc.imp id (ho c)⟩, h'.mono (fun c hc => .inl hc) fun c hc => ?_, ⟨hr, fun c hc => .inr hc, fun c f hc hf => ?_, hf, hn, ht⟩⟩
  · rcases hc with hc | hc
    · exact h'.olt c hc
    · obtain ⟨cur, e⟩ := hr.ob hc
      exact lt_of_block e
  · have h1 := ho c hc
    refine ⟨fun e => ?_, fun e => ?_⟩
    · have := h.olt c (h.fls.on f c hf e)
      omega
    · have := h.olt c (h.fls.off f c hf e)
      omega
theorem wrap_i64 (n : Int) : IntKind.i64.wrap n = wrap64 n := by
  unfold IntKind.wrap wrap64
  simp [IntKind.bits, IntKind.signed]
  split <;> omega
theorem fndE_cases (d : Dk) (s : ByteArray) : fndE d s = 61 ∨ fndE d s = 63 ∨ (fndE d s = 60 ∧ fndF d s = none ∧ okN s = true) ∨ (fndE d s = 0 ∧ ∃ f, fndF d s = some f ∧ d.nN s = some f ∧ okN s = true) := by
  by_cases h0 : fndE d s = 0
  · obtain ⟨h1, h2, f, h3⟩ := fndE_ok h0
    exact .inr (.inr (.inr ⟨h0, f, by unfold fndF; rw [if_pos h0]; exact h3, h3, h1⟩))
  · have hf : fndF d s = none := if_neg h0
    unfold fndE at h0 ⊢
    split
    · rename_i h1
      rw [if_pos h1] at h0
      split
      · rename_i h2
        rw [if_pos h2] at h0
        split
        · rename_i h3
          rw [if_pos h3] at h0
          exact absurd rfl h0
        · exact .inr (.inr (.inl ⟨rfl, hf, h1⟩))
      · exact .inr (.inl rfl)
    · exact .inl rfl
set_option maxHeartbeats 4000000 in
set_option maxRecDepth 100000 in
theorem put_bad (kind : Int) (hk : kind = 1 ∨ kind = 2) (s : ByteArray) (bval : Value) (b : List UInt8) (O : Nat → Prop) (B : Nat) (a : Da) (d : Dk) (w : World) (hd : DSt w O B a d) (q : Nat) (hq : Bd q d) (hq8 : q + b.length + 2 < 99999999) (hb : Rd w bval b) (hbO : ∀ c, ob bval c → ¬ O c) (he : fndE d s = 61 ∨ fndE d s = 63) :
    Calls Try.prog 18 #[.pointer (some ⟨B, 0, none⟩), .int .i64 kind, .string s, bval] w fun e w' => ∃ E, e = .returned (.int .i64 E) ∧ Turn w O B a (q + 2 + b.length) (PutR a.Fs kind s b d E) w' := by
  have HF := hid (find_any O B a d s w hd)
  have HD := hid hd
  have HQ := hid hq
  have HB := hid hb
  have HBO := hid hbO
  obtain ⟨ab, cb, hbv⟩ := hb.form
  obtain ⟨nb, hnb⟩ : ∃ nb, b.length = nb := ⟨_, rfl⟩
  rw [hnb] at hbv
  subst hbv
  have HE := hid he
  clear hd hq hb hbO
  obtain ⟨E, hE⟩ : ∃ E, fndE d s = E := ⟨_, rfl⟩
  have hfin : PutR a.Fs kind s b d E d := .inl ⟨hE.symm, by rw [← hE]; exact he, rfl⟩
  have HFIN := hid hfin
  rw [hE] at HF he
  clear hE hfin
  have hfn : fndF d s = none := by
    unfold fndF
    rcases HE.out with h | h <;> rw [h] <;> rfl
  rw [hfn] at HF
  clear hfn
  rcases he with rfl | rfl
  all_goals
    go_enter Try.func18, Try.ntmps18
    go_wp2_with (first | (go_at_call 21; refine HF.out.mono ?_; rintro e u1 ⟨rfl, k1⟩))
    go_ret
    exact ⟨_, rfl, O, a, d, (Stp.refl w O).kept k1, HD.out.kept k1, HQ.out.mono (by omega), fun f h => h, HFIN.out⟩
set_option maxHeartbeats 4000000 in
set_option maxRecDepth 100000 in
theorem put_new (kind : Int) (hk : kind = 1 ∨ kind = 2) (s : ByteArray) (bval : Value) (b : List UInt8) (O : Nat → Prop) (B : Nat) (a : Da) (d : Dk) (w : World) (hd : DSt w O B a d) (q : Nat) (hq : Bd q d) (hq8 : q + b.length + 2 < 99999999) (hb : Rd w bval b) (hbO : ∀ c, ob bval c → ¬ O c) (he : fndE d s = 60) (hf : fndF d s = none) (hok : okN s = true) :
    Calls Try.prog 18 #[.pointer (some ⟨B, 0, none⟩), .int .i64 kind, .string s, bval] w fun e w' => ∃ E, e = .returned (.int .i64 E) ∧ Turn w O B a (q + 2 + b.length) (PutR a.Fs kind s b d E) w' := by
  have HF := hid (find_any O B a d s w hd)
  have HD := hid hd
  have HQ := hid hq
  have HB := hid hb
  have HBO := hid hbO
  obtain ⟨ab, cb, hbv⟩ := hb.form
  obtain ⟨nb, hnb⟩ : ∃ nb, b.length = nb := ⟨_, rfl⟩
  rw [hnb] at hbv
  subst hbv
  rw [he, hf] at HF
  have HOK := hid hok
  have HE := hid he
  have hby := fun (u : World) (k : Kept w u) => bytes_any a.mN d.nn d.nN d.cn u (hd.kept k).mN (by have := hq.nn; omega) q (by omega) fun t g h => ⟨by
    obtain ⟨ao, c, e⟩ := ((hd.kept k).fls.rn g (hd.inN t g h).1).form
    exact ⟨ao, c, _, by rw [← e]; exact (hd.kept k).fls.blk g (hd.inN t g h).1⟩, hq.cn g⟩
  obtain ⟨N, hN, hNl, hNr⟩ := len_run hd.mN
  have HBY := hid hby
  have HN := hid hN
  have HNL := hid (show N.length < 99999999 by have := hq.nn; omega)
  have HLEN := hid hNr
  clear hb hbO hby hN hNl hNr hq hd he hf hok
  go_enter Try.func18, Try.ntmps18
  go_wp2_with (first | (go_at_call 21; refine HF.out.mono ?_; rintro e u1 ⟨rfl, k1⟩))
  have hd1 := HD.out.kept k1
  have HBY := hid fun u k => HBY.out u (k1.trans k)
  have HLEN := hid fun u k => HLEN.out u (k1.trans k)
  refine wp_region_late [] (fun u => (u.cell? ⟨B, 5, none⟩ = some (.map (some a.mN))) ∧ Kept u1 u) (by kernel_rfl) (show _ ∧ _ from ⟨hd1.blk.cell 5 _ rfl, (Kept.refl u1).drew⟩) (fun hHeld => ?_)
  refine wpAnyD_take (i := 0) (v := ?_) rfl (by kernel_rfl) (by kernel_rfl) (by kernel_rfl) (by kernel_rfl) (fun _ _ _ h => h) (Or.inl ⟨by rfl, ?hyq0⟩) hHeld ?_
  case hyq0 => (intro w hSw; (try dsimp only at hSw); go_simp; try (with_reducible rfl))
  (try simp only [Act.put, List.getElem_toArray, List.getElem_cons_succ, List.getElem_cons_zero, List.setIfInBounds_toArray, List.set_cons_zero, List.set_cons_succ])
  refine wpAnyD_take (i := 1) (v := ?_) rfl (by kernel_rfl) (by kernel_rfl) (by kernel_rfl) (by kernel_rfl) (fun _ _ _ h => h) (Or.inl ⟨by rfl, ?hyq1⟩) hHeld ?_
  case hyq1 => (intro w hSw; (try dsimp only at hSw); go_simp; try (with_reducible rfl))
  (try simp only [Act.put, List.getElem_toArray, List.getElem_cons_succ, List.getElem_cons_zero, List.setIfInBounds_toArray, List.set_cons_zero, List.set_cons_succ])
  refine wpAnyD_take (i := 2) (v := ?_) rfl (by kernel_rfl) (by kernel_rfl) (by kernel_rfl) (by kernel_rfl) (fun _ _ _ h => h) (Or.inl ⟨by rfl, ?hyq2⟩) hHeld ?_
  case hyq2 => (intro w hSw; (try dsimp only at hSw); go_simp; try (with_reducible rfl))
  (try simp only [Act.put, List.getElem_toArray, List.getElem_cons_succ, List.getElem_cons_zero, List.setIfInBounds_toArray, List.set_cons_zero, List.set_cons_succ])
  refine wpAnyD_take (i := 3) (v := ?_) rfl (by kernel_rfl) (by kernel_rfl) (by kernel_rfl) (by kernel_rfl) (fun _ _ _ h => h) (Or.inl ⟨by rfl, ?hyq3⟩) hHeld ?_
  case hyq3 => (intro w hSw; (try dsimp only at hSw); go_simp; try (with_reducible rfl))
  (try simp only [Act.put, List.getElem_toArray, List.getElem_cons_succ, List.getElem_cons_zero, List.setIfInBounds_toArray, List.set_cons_zero, List.set_cons_succ])
  refine wpAnyD_take (i := 4) (v := .int .i64 N.length) rfl (by kernel_rfl) (by kernel_rfl) (by kernel_rfl) (by kernel_rfl) (fun _ _ _ h => h) (Or.inl ⟨by rfl, ?hyq4⟩) hHeld ?_
  case hyq4 => (intro w hSw; have hlen4 := HLEN.out w hSw.2; (try dsimp only at hSw); go_simp)
  (try simp only [Act.put, List.getElem_toArray, List.getElem_cons_succ, List.getElem_cons_zero, List.setIfInBounds_toArray, List.set_cons_zero, List.set_cons_succ])
  refine wpAnyD_take (i := 5) (v := ?_) rfl (by kernel_rfl) (by kernel_rfl) (by kernel_rfl) (by kernel_rfl) (fun _ _ _ h => h) (Or.inl ⟨by rfl, ?hyr5⟩) hHeld ?_
  case hyr5 => (intro w hSw; (try dsimp only at hSw); go_simp; try (with_reducible rfl))
  (try simp only [Act.put, List.getElem_toArray, List.getElem_cons_succ, List.getElem_cons_zero, List.setIfInBounds_toArray, List.set_cons_zero, List.set_cons_succ])
  refine wpAnyD_take (i := 6) (v := ?_) rfl (by kernel_rfl) (by kernel_rfl) (by kernel_rfl) (by kernel_rfl) (fun _ _ _ h => h) (Or.inl ⟨by rfl, ?hyr6⟩) hHeld ?_
  case hyr6 => (intro w hSw; (try dsimp only at hSw); go_simp; try (with_reducible rfl))
  (try simp only [Act.put, List.getElem_toArray, List.getElem_cons_succ, List.getElem_cons_zero, List.setIfInBounds_toArray, List.set_cons_zero, List.set_cons_succ])
  refine wpAnyD_take (i := 7) (v := ?_) rfl (by kernel_rfl) (by kernel_rfl) (by kernel_rfl) (by kernel_rfl) (fun _ _ _ h => h) (Or.inl ⟨by rfl, ?hyr7⟩) hHeld ?_
  case hyr7 => (intro w hSw; (try dsimp only at hSw); go_simp; try (with_reducible rfl))
  (try simp only [Act.put, List.getElem_toArray, List.getElem_cons_succ, List.getElem_cons_zero, List.setIfInBounds_toArray, List.set_cons_zero, List.set_cons_succ])
  refine wpAnyD_take (i := 8) (v := ?_) rfl (by kernel_rfl) (by kernel_rfl) (by kernel_rfl) (by kernel_rfl) (fun _ _ _ h => h) (Or.inl ⟨by rfl, ?hyr8⟩) hHeld ?_
  case hyr8 => (intro w hSw; (try dsimp only at hSw); go_simp; try (with_reducible rfl))
  (try simp only [Act.put, List.getElem_toArray, List.getElem_cons_succ, List.getElem_cons_zero, List.setIfInBounds_toArray, List.set_cons_zero, List.set_cons_succ])
  refine wpAnyD_take (i := 10) (v := ?_) rfl (by kernel_rfl) (by kernel_rfl) (by kernel_rfl) (by kernel_rfl) (fun _ _ _ h => h) (Or.inl ⟨by rfl, ?hyr10⟩) hHeld ?_
  case hyr10 => (intro w hSw; (try dsimp only at hSw); go_simp; try (with_reducible rfl))
  (try simp only [Act.put, List.getElem_toArray, List.getElem_cons_succ, List.getElem_cons_zero, List.setIfInBounds_toArray, List.set_cons_zero, List.set_cons_succ])
  refine wpAnyD_take (i := 11) (v := ?_) rfl (by kernel_rfl) (by kernel_rfl) (by kernel_rfl) (by kernel_rfl) (fun _ _ _ h => h) (Or.inl ⟨by rfl, ?hyr11⟩) hHeld ?_
  case hyr11 => (intro w hSw; (try dsimp only at hSw); go_simp; try (with_reducible rfl))
  (try simp only [Act.put, List.getElem_toArray, List.getElem_cons_succ, List.getElem_cons_zero, List.setIfInBounds_toArray, List.set_cons_zero, List.set_cons_succ])
  refine wpAnyD_step (i := 9) (by kernel_rfl) rfl (fun K hK9 => ?_)
  go_simp
  go_wp2_with fail
  refine ((HBY.out _ ((Kept.refl u1).drew))).mono ?_
  rintro e u9 ⟨⟨N2, hN2, -, hs9, rfl⟩, k9⟩
  refine hK9.out _ _ ((show _ ∧ _ from ⟨(hd1.kept (((Kept.refl u1).drew).trans (by assumption))).blk.cell 5 _ rfl, ((Kept.refl u1).drew).trans (by assumption)⟩)) (fun hHeld9 => ?_)
  clear hK9 K
  refine wpAnyD_take (i := 12) (v := ?_) rfl (by kernel_rfl) (by kernel_rfl) (by kernel_rfl) (by kernel_rfl) (fun _ _ _ h => h) (Or.inl ⟨by rfl, ?hys12⟩) hHeld9 ?_
  case hys12 => (intro w hSw; (try dsimp only at hSw); go_simp; try (with_reducible rfl))
  (try simp only [Act.put, List.getElem_toArray, List.getElem_cons_succ, List.getElem_cons_zero, List.setIfInBounds_toArray, List.set_cons_zero, List.set_cons_succ])
  refine wpAnyD_take (i := 13) (v := ?_) rfl (by kernel_rfl) (by kernel_rfl) (by kernel_rfl) (by kernel_rfl) (fun _ _ _ h => h) (Or.inl ⟨by rfl, ?hys13⟩) hHeld9 ?_
  case hys13 => (intro w hSw; (try dsimp only at hSw); go_simp; try (with_reducible rfl))
  (try simp only [Act.put, List.getElem_toArray, List.getElem_cons_succ, List.getElem_cons_zero, List.setIfInBounds_toArray, List.set_cons_zero, List.set_cons_succ])
  refine wpAnyD_take (i := 14) (v := ?_) rfl (by kernel_rfl) (by kernel_rfl) (by kernel_rfl) (by kernel_rfl) (fun _ _ _ h => h) (Or.inl ⟨by rfl, ?hys14⟩) hHeld9 ?_
  case hys14 => (intro w hSw; (try dsimp only at hSw); go_simp; try (with_reducible rfl))
  (try simp only [Act.put, List.getElem_toArray, List.getElem_cons_succ, List.getElem_cons_zero, List.setIfInBounds_toArray, List.set_cons_zero, List.set_cons_succ])
  refine wpAnyD_done (by kernel_rfl) ?_ _
  (try simp only [Act.put, List.getElem_toArray, List.getElem_cons_succ, List.getElem_cons_zero, List.setIfInBounds_toArray, List.set_cons_zero, List.set_cons_succ])
  obtain ⟨T, hT⟩ : ∃ T, sumN d.cn N2 = T := ⟨_, rfl⟩
  have hTN : sumN d.cn N = T := by rw [← hT]; exact sumN_full HN.out hN2
  rw [hT] at hs9 ⊢
  have hNB := hid (show nb < 99999999 by omega)
  obtain ⟨T2, hT2⟩ : ∃ T2 : Int, T2 = (T : Int) + nb := ⟨_, rfl⟩
  have hw1 : IntKind.i64.wrap ((T : Int) + nb) = T2 := by
    rw [wrap_i64, hT2]
    unfold wrap64
    have := hNB.out
    omega
  rw [hw1]
  obtain ⟨n, hn⟩ : ∃ n, N.length = n := ⟨_, rfl⟩
  rw [hn] at HNL ⊢
  obtain ⟨F1, hF1⟩ : ∃ F1 : Int, F1 = (n : Int) + 1 := ⟨_, rfl⟩
  have hw2 : wrap64 ((n : Int) + 1) = F1 := by rw [hF1]; unfold wrap64; have := HNL.out; omega
  have HF1 := hid hF1
  clear hF1
  have k9 := k1.trans (((Kept.refl u1).drew).trans k9)
  have hd9 := HD.out.kept k9
  have c3 := hd9.blk.cell 3 _ rfl
  have c4 := hd9.blk.cell 4 _ rfl
  obtain ⟨rf, hrf⟩ : ∃ rf, d.rf = rf := ⟨_, rfl⟩
  obtain ⟨rb, hrb⟩ : ∃ rb, d.rb = rb := ⟨_, rfl⟩
  rw [hrf] at c3
  rw [hrb] at c4
  have HTN := hid hTN
  have Hn := hid hn
  have HRF := hid hrf
  have HRB := hid hrb
  have HNB2 := hid hnb
  have HT18 := hid hs9
  have HK9 := hid k9
  have HD9 := hid hd9
  have HT2 := hid hT2
  clear hT2 hT hTN hw1 hn hrf hrb hnb hs9 k9 hd9 hHeld hHeld9 hN2 hd1 k1
  by_cases h1 : rf < F1
  · go_wp2_with fail
    go_ret
    refine ⟨_, rfl, O, a, d, (Stp.refl w O).kept HK9.out, HD9.out, HQ.out.mono (by omega), fun f h => h, .inr (.inl ⟨HE.out, N, HN.out, .inl ⟨rfl, rfl, .inl ?_⟩⟩)⟩
    rw [HRF.out, Hn.out, ← HF1.out]
    exact h1
  · by_cases h2 : rb < T2
    · go_wp2_with fail
      go_ret
      refine ⟨_, rfl, O, a, d, (Stp.refl w O).kept HK9.out, HD9.out, HQ.out.mono (by omega), fun f h => h, .inr (.inl ⟨HE.out, N, HN.out, .inl ⟨rfl, rfl, .inr ?_⟩⟩)⟩
      rw [HRB.out, HTN.out, HNB2.out, ← HT2.out]
      exact h2
    · obtain ⟨s1, d1⟩ := HD9.out.newfile u9.heap.size (Nat.le_refl _) ((Kept.refl u9).alloc #[.slice none 0 0, .slice none 0 0] 64) (arr_new u9 [.slice none 0 0, .slice none 0 0] _)
      have bd1 := HQ.out.new u9.heap.size
      have hnf : ¬ a.Fs u9.heap.size := fun h => by
        have := HD9.out.olt _ (HD9.out.fls.of _ h)
        omega
      obtain ⟨f, hf⟩ : ∃ f, u9.heap.size = f := ⟨_, rfl⟩
      obtain ⟨U, hU⟩ : ∃ U, u9.alloc (.cells #[.slice none 0 0, .slice none 0 0] 64) = U := ⟨_, rfl⟩
      rw [hf] at bd1 hnf d1
      rw [hU] at s1 d1
      obtain ⟨O1, hO1⟩ : ∃ O1, Ow O u9 U = O1 := ⟨_, rfl⟩
      rw [hO1] at s1 d1
      have hx1 : WkOk U O1 { a with Fs := fun g => a.Fs g ∨ g = f, rn := up a.rn f (.slice none 0 0), rf := up a.rf f (.slice none 0 0) } ⟨3, ⟨#[]⟩, s, 0, f, []⟩ (.slice none 0 0) := ⟨Rb.nil _, fun b hb => absurd hb (ob_nil b), fun b f hb => absurd hb (ob_nil b), (show a.Fs f ∨ f = f from .inr rfl), (show (⟨#[]⟩ : ByteArray).size ≤ 32 from by decide), okN_size HOK.out⟩
      have HDO := hid (do_any O1 B _ _ ⟨3, ⟨#[]⟩, s, 0, f, []⟩ (.slice none 0 0) U d1 hx1 (Int.le_refl 0) bd1 (by simp; omega))
      have BD2 := hid (bd1.do_ ⟨3, ⟨#[]⟩, s, 0, f, []⟩ (Int.le_refl 0))
      have HS1 := hid s1
      have HNF := hid hnf
      have Hh1 := hid h1
      have Hh2 := hid h2
      have Hf := hid hf
      have HU := hid hU
      clear s1 d1 hx1 bd1 hnf hO1 hf hU
      go_wp2_with fail
      go_at_call 22
      rw [Hf.out, HU.out]
      refine HDO.out.mono ?_
      rintro e u10 ⟨rfl, O2, a2, s2, d2, hF2⟩
      have S02 := ((Stp.refl w O).kept HK9.out).trans (HS1.out.trans s2)
      have hb10 : Rd u10 (.slice ab nb cb) b := HB.out.onb (fun c hc ho => S02.kx.block c hc (HBO.out c ho)) S02.kx.size
      have HCL := hid (clone_any (.slice ab nb cb) b u10 hb10 (by omega))
      have HS2 := hid S02
      have HD2 := hid d2
      have HF2 := hid hF2
      clear S02 hb10 d2 s2 hF2 HDO HU Hf h1 h2
      go_wp2_with fail
      go_at_call 28
      refine HCL.out.mono ?_
      rintro e u11 ⟨v11, rfl, r11, k11, o11⟩
      obtain ⟨S3, D3, X3⟩ := fresh_wk HD2.out k11 v11 ⟨kind, s, ⟨#[]⟩, nb, f, b⟩ r11 o11 (HF2.out f (show a.Fs f ∨ f = f from .inr rfl)) (okN_size HOK.out) (show (⟨#[]⟩ : ByteArray).size ≤ 32 from by decide)
      obtain ⟨av, cv, hv⟩ := r11.form
      have HDO := hid (do_any _ B a2 _ ⟨kind, s, ⟨#[]⟩, nb, f, b⟩ v11 u11 D3 X3 (Int.natCast_nonneg nb) BD2.out (by simp; omega))
      have BD3 := hid (BD2.out.do_ ⟨kind, s, ⟨#[]⟩, nb, f, b⟩ (Int.natCast_nonneg nb))
      have HS3 := hid (HS2.out.trans S3)
      rw [HNB2.out] at hv
      clear S3 D3 X3 HCL r11 k11 o11 BD2 HD2
      subst hv
      go_wp2_with fail
      go_at_call 22
      refine HDO.out.mono ?_
      rintro e u12 ⟨rfl, O4, a4, s4, d4, hF4⟩
      have HBU := hid (burn_disk O4 B a4 _ u12 d4)
      have HS4 := hid (HS3.out.trans s4)
      have HF4 := hid hF4
      clear d4 s4 hF4 HDO
      go_wp2_with fail
      go_at_call 23
      refine HBU.out.mono ?_
      rintro e u13 ⟨rfl, s5, d5⟩
      go_wp2_with fail
      go_ret
      refine ⟨0, rfl, O4, a4, _, HS4.out.trans s5, d5, (BD3.out.burn).mono (by simp <;> omega), fun g hg => HF4.out g (HF2.out g (show a.Fs g ∨ g = f from .inl hg)), .inr (.inl ⟨HE.out, N, HN.out, .inr ⟨rfl, ⟨?_, ?_⟩, f, HNF.out, ?_⟩⟩)⟩
      · rw [HRF.out, Hn.out, ← HF1.out]
        exact Hh1.out
      · rw [HRB.out, HTN.out, HNB2.out, ← HT2.out]
        exact Hh2.out
      · rw [HNB2.out]
end Go.Proofs.Ythaiejmajhmahab
