/- Package disk: Flush, Sync, Rename. -/
import Derived.Test.YthaiejmajhmahabDLV
import Derived.Laws.Strings
namespace Go.Proofs.Ythaiejmajhmahab
open Go.ChangeShapes Go.WideShapes Go.ChangeAt Go.RowKit Go.Maps
set_option linter.unusedVariables false
set_option linter.unusedSimpArgs false

/-- What Flush makes of a disk. -/
def FluR (s : ByteArray) (d : Dk) (E : Int) (d' : Dk) : Prop :=
  E = fndE d s ∧ ((E ≠ 0 ∧ d' = d) ∨ (E = 0 ∧ ∃ f, d.nN s = some f ∧ d' = burnD (setD (ofF f) d)))
theorem flush_any (s : ByteArray) (O : Nat → Prop) (B : Nat) (a : Da) (d : Dk) (w : World) (hd : DSt w O B a d) (q : Nat) (hq : Bd q d) (hq8 : q < 99999999) :
    Calls Try.prog 10 #[.pointer (some ⟨B, 0, none⟩), .string s] w fun e w' => ∃ E, e = .returned (.int .i64 E) ∧ Turn w O B a q (FluR s d E) w' := by
  have HF := hid (find_any O B a d s w hd)
  have HD := hid hd
  have HQ := hid hq
  obtain ⟨E, hE⟩ : ∃ E, fndE d s = E := ⟨_, rfl⟩
  have HE := hid hE
  have hbad : E ≠ 0 → fndF d s = none := fun h => if_neg (by rw [hE]; exact h)
  rcases fndE_cases d s with h | h | ⟨h, h2, h3⟩ | ⟨h, f, h2, h3, h4⟩
  iterate 3
    rw [hE] at h
    subst h
    rw [hbad (by decide), hE] at HF
    simp only [pv, Option.map_none] at HF
    clear hd hq hE hbad
    go_enter Try.func10, Try.ntmps10
    go_wp2_with (first | (go_at_call 17; refine (there_any B _).mono ?_; rintro e u1 ⟨rfl, rfl⟩) | (go_at_call 21; refine HF.out.mono ?_; rintro e u2 ⟨rfl, k2⟩))
    go_ret
    exact ⟨_, rfl, O, a, d, (Stp.refl _ O).kept (k2.alloc _ _), HD.out.kept (k2.alloc _ _), HQ.out, fun f h => h, HE.out.symm, .inl ⟨by decide, rfl⟩⟩
  · rw [hE] at h
    subst h
    rw [h2, hE] at HF
    simp only [pv, Option.map_some] at HF
    have hfs := (hd.inN s f h3).1
    have HST := hid fun (u : World) (k : Kept w u) => settle_file O B a d q (u.alloc (.cells #[.pointer (some ⟨f, 0, none⟩)] 52)) u.heap.size f (arr_new u [.pointer (some ⟨f, 0, none⟩)] _) (fun h => by have := (hd.kept k).olt _ h; omega) hfs ((hd.kept k).kept ((Kept.refl u).alloc _ _)) hq hq8
    have HF3 := hid h3
    clear hd hq hE hbad h2 h3 h4 hfs
    go_enter Try.func10, Try.ntmps10
    go_wp2_with (first | (go_at_call 17; refine (there_any B _).mono ?_; rintro e u1 ⟨rfl, rfl⟩) | (go_at_call 21; refine HF.out.mono ?_; rintro e u2 ⟨rfl, k2⟩) | (go_at_call 24; refine (HST.out _ k2).mono ?_; rintro e u3 ⟨rfl, O3, a3, s3, d3, b3, f3⟩) | (go_at_call 23; refine (burn_disk O3 B a3 _ u3 d3).mono ?_; rintro e u4 ⟨rfl, s4, d4⟩))
    go_ret
    exact ⟨0, rfl, O3, a3, _, (((Stp.refl _ O).kept (k2.alloc _ _)).trans s3).trans s4, d4, b3.burn, fun g hg => by rw [f3]; exact hg, HE.out.symm, .inr ⟨rfl, f, HF3.out, rfl⟩⟩
/-- What Sync makes of a disk. -/
def SynR (F : Nat → Prop) (d : Dk) (E : Int) (d' : Dk) : Prop :=
  (d.on = false ∧ E = 63 ∧ d' = d) ∨ (d.on = true ∧ E = 0 ∧ ∃ d1, ForR F (setD (fun x => ofN x.kind) d).W.length (setD (fun x => ofN x.kind) d) d1 ∧ d' = burnD d1)
theorem wsum_le {l k : List Wk} (hl : k.length = l.length) (h : ∀ (j : Nat) x, l[j]? = some x → ∃ y, k[j]? = some y ∧ y.bytes.length ≤ x.bytes.length) : wsum k ≤ wsum l := by
  induction l generalizing k with
  | nil => have : k = [] := List.length_eq_zero_iff.1 hl; subst this; exact Nat.le_refl _
  | cons x r ih =>
    rcases k with _ | ⟨y, k⟩
    · cases hl
    · obtain ⟨z, hz, hl0⟩ := h 0 x rfl
      cases hz
      have := ih (k := k) (by simpa using hl) fun j u hu => by
        obtain ⟨v, hv, hb⟩ := h (j + 1) u (by simpa using hu)
        exact ⟨v, by simpa using hv, hb⟩
      simp only [wsum]
      omega
theorem ForR.bd {F : Nat → Prop} {i q : Nat} {d d' : Dk} (h : ForR F i d d') (hq : Bd q d) : Bd q d' := by
  have hw : wsum d'.W ≤ wsum d.W := wsum_le h.len fun j x hx => by
    obtain ⟨y, hy, hh⟩ := h.at_ j x hx
    refine ⟨y, hy, ?_⟩
    rcases hh with rfl | ⟨-, -, -, e⟩
    · exact Nat.le_refl _
    · rw [e]
      exact Nat.zero_le _
  have e := h.eq
  refine ⟨by rw [e]; exact hq.nn, ?_, fun f => Nat.le_trans (h.ln f).1 (hq.cn f), fun f => ?_, fun y hy => ?_⟩
  · have := hq.nf
    have e2 : d'.nf = d.nf := by rw [e]
    omega
  · have := hq.cf f
    have := (h.ln f).2
    omega
  · obtain ⟨j, hj, e2⟩ := List.getElem_of_mem hy
    obtain ⟨y2, hy2, hh⟩ := h.at_ j (d.W[j]'(by rw [← h.len]; exact hj)) (List.getElem?_eq_getElem _)
    have : y2 = y := by
      rw [List.getElem?_eq_getElem hj, e2] at hy2
      cases hy2
      rfl
    subst this
    rcases hh with rfl | ⟨-, -, -, e3⟩
    · exact hq.ln _ (List.getElem_mem _)
    · rw [e3]
      exact hq.ln (d.W[j]'(by rw [← h.len]; exact hj)) (List.getElem_mem _)
theorem sync_any (O : Nat → Prop) (B : Nat) (a : Da) (d : Dk) (w : World) (hd : DSt w O B a d) (q : Nat) (hq : Bd q d) (hq8 : q < 99999999) :
    Calls Try.prog 12 #[.pointer (some ⟨B, 0, none⟩)] w fun e w' => ∃ E, e = .returned (.int .i64 E) ∧ Turn w O B a q (SynR a.Fs d E) w' := by
  have HC := hid (check0 B a d w hd.blk)
  have HST := hid fun (u : World) (k : Kept w u) => settle_names O B a d q u (hd.kept k) hq hq8
  have HD := hid hd
  have HQ := hid hq
  obtain ⟨on, hon⟩ : ∃ on, d.on = on := ⟨_, rfl⟩
  rw [hon] at HC
  have HON := hid hon
  clear hd hq hon
  cases on
  · go_enter Try.func12, Try.ntmps12
    go_wp2_with (first | (go_at_call 17; refine (there_any B _).mono ?_; rintro e u1 ⟨rfl, rfl⟩) | (go_at_call 19; refine HC.out.mono ?_; rintro e u2 ⟨rfl, k2⟩))
    go_ret
    exact ⟨63, rfl, O, a, d, (Stp.refl _ O).kept k2, HD.out.kept k2, HQ.out, fun f h => h, .inl ⟨HON.out, rfl, rfl⟩⟩
  · go_enter Try.func12, Try.ntmps12
    go_wp2_with (first | (go_at_call 17; refine (there_any B _).mono ?_; rintro e u1 ⟨rfl, rfl⟩) | (go_at_call 19; refine HC.out.mono ?_; rintro e u2 ⟨rfl, k2⟩) | (go_at_call 24; refine (HST.out _ k2).mono ?_; rintro e u3 ⟨rfl, O3, a3, s3, d3, b3, f3⟩) | (go_at_call 27; refine (forget_any O3 B a3 _ u3 d3 (by have := len_wsum (setD (fun x => ofN x.kind) d).W; have := b3.nf; omega)).mono ?_; rintro e u4 ⟨rfl, O4, a4, d4, s4, D4, -, -, f4, r4⟩) | (go_at_call 23; refine (burn_disk O4 B a4 _ u4 D4).mono ?_; rintro e u5 ⟨rfl, s5, d5⟩))
    go_ret
    rw [f3] at r4
    exact ⟨0, rfl, O4, a4, _, ((((Stp.refl _ O).kept k2).trans s3).trans s4).trans s5, d5, (r4.bd b3).burn, fun g hg => f4 g (by rw [f3]; exact hg), .inr ⟨HON.out, rfl, d4, r4, rfl⟩⟩
/-- What Rename makes of a disk. -/
def RenR (s t : ByteArray) (d : Dk) (E : Int) (d' : Dk) : Prop :=
  (E ≠ 0 ∧ d' = d ∧ E = if okN t then fndE d s else 61) ∨ (E = 0 ∧ okN t = true ∧ fndE d s = 0 ∧ ∃ f, d.nN s = some f ∧ okN s = true ∧ d' = burnD (if s = t then d else doD ⟨3, s, t, 0, f, []⟩ d))
theorem two_sts (w : World) (ty : TypeId) (s t : ByteArray) : Sts (w.alloc (.cells #[.string s, .string t] ty)) w.heap.size 2 (fun j => if j = 0 then s else t) := ⟨by simp, fun i hi => by
  have hA := arr_new w [.string s, .string t] ty
  rcases i with _ | _ | i
  · exact hA.cell 0 _ rfl
  · exact hA.cell 1 _ rfl
  · omega⟩
set_option maxHeartbeats 1000000 in
theorem rename_any (s t : ByteArray) (O : Nat → Prop) (B : Nat) (a : Da) (d : Dk) (w : World) (hd : DSt w O B a d) (q : Nat) (hq : Bd q d) (hq8 : q + 2 < 99999999) :
    Calls Try.prog 11 #[.pointer (some ⟨B, 0, none⟩), .string s, .string t] w fun e w' => ∃ E, e = .returned (.int .i64 E) ∧ Turn w O B a (q + 1) (RenR s t d E) w' := by
  obtain ⟨w1, hw1⟩ : ∃ w1, w.alloc (.cells #[.string s, .string t] 9) = w1 := ⟨_, rfl⟩
  have k1 : Kept w w1 := by rw [← hw1]; exact (Kept.refl w).alloc _ _
  have hC := fun (ok : Bool) (hok : ok = true ↔ ∀ j, j < 2 → okN (if j = 0 then s else t) = true) => checkN B a d w1 (hd.blk.kept k1) 2 (fun j => if j = 0 then s else t) (by decide) w.heap.size (by rw [← hw1]; exact two_sts w _ s t) ok hok
  have HF := hid fun (u : World) (k : Kept w u) => find_any O B a d s u (hd.kept k)
  have HD := hid hd
  have HQ := hid hq
  have HK1 := hid k1
  obtain ⟨W, hW⟩ : ∃ W, w.heap.size = W := ⟨_, rfl⟩
  rw [hW] at hC
  have HW := hid hW
  obtain ⟨os, hos⟩ : ∃ os, okN s = os := ⟨_, rfl⟩
  obtain ⟨ot, hot⟩ : ∃ ot, okN t = ot := ⟨_, rfl⟩
  obtain ⟨on, hon⟩ : ∃ on, d.on = on := ⟨_, rfl⟩
  have hC := hC (os && ot) (by
    rw [Bool.and_eq_true, ← hos, ← hot]
    refine ⟨fun ⟨h1, h2⟩ j hj => ?_, fun h => ⟨h 0 (by decide), h 1 (by decide)⟩⟩
    rcases j with _ | j
    · exact h1
    · exact h2)
  rw [hon] at hC
  have HC := hid hC
  have hE61 : os = false → fndE d s = 61 := fun h => by unfold fndE; rw [hos, h]; rfl
  have hE63 : os = true → on = false → fndE d s = 63 := fun h h2 => by unfold fndE; rw [hos, h, hon, h2]; rfl
  have HE61 := hid hE61
  have HE63 := hid hE63
  have HOS := hid hos
  have HOT := hid hot
  have bad : ∀ (E : Int) (u : World), Kept w u → E ≠ 0 → (E = if ot then fndE d s else 61) → Turn w O B a (q + 1) (RenR s t d E) u := fun E u k h1 h2 => ⟨O, a, d, (Stp.refl w O).kept k, hd.kept k, hq.mono (by omega), fun f h => h, .inl ⟨h1, rfl, by rw [hot]; exact h2⟩⟩
  have BAD := hid bad
  clear hC hd hq k1 hE61 hE63 hos bad
  have hce : chkE (os && ot) on = 61 ∨ chkE (os && ot) on = 63 ∨ (os = true ∧ ot = true ∧ on = true) := by cases os <;> cases ot <;> cases on <;> simp [chkE]
  rcases hce with h | h | ⟨h1, h2, h3⟩
  · have h0 : (61 : Int) = if ot then fndE d s else 61 := by
      cases os
      · cases ot
        · rfl
        · exact (HE61.out rfl).symm
      · cases ot
        · rfl
        · cases on <;> cases h
    have H0 := hid h0
    rw [h] at HC
    clear h h0
    go_enter Try.func11, Try.ntmps11
    go_wp2_with (first | (go_at_call 17; refine (there_any B _).mono ?_; rintro e u1 ⟨rfl, rfl⟩) | (go_at_call 19; (try rw [hW]); (try rw [hw1]); refine HC.out.mono ?_; rintro e u2 ⟨rfl, k2⟩))
    go_ret
    exact ⟨61, rfl, BAD.out _ _ (HK1.out.trans k2) (by decide) H0.out⟩
  · have h0 : (63 : Int) = if ot then fndE d s else 61 := by
      cases os
      · cases ot <;> cases on <;> cases h
      · cases ot
        · cases on <;> cases h
        · cases on
          · exact (HE63.out rfl rfl).symm
          · cases h
    have H0 := hid h0
    rw [h] at HC
    clear h h0
    go_enter Try.func11, Try.ntmps11
    go_wp2_with (first | (go_at_call 17; refine (there_any B _).mono ?_; rintro e u1 ⟨rfl, rfl⟩) | (go_at_call 19; (try rw [hW]); (try rw [hw1]); refine HC.out.mono ?_; rintro e u2 ⟨rfl, k2⟩))
    go_ret
    exact ⟨63, rfl, BAD.out _ _ (HK1.out.trans k2) (by decide) H0.out⟩
  · subst h1 h2 h3
    obtain ⟨E, hE⟩ : ∃ E, fndE d s = E := ⟨_, rfl⟩
    have hbad : E ≠ 0 → fndF d s = none := fun h => if_neg (by rw [hE]; exact h)
    have HEE := hid hE
    rcases fndE_cases d s with h | h | ⟨h, h2, h3⟩ | ⟨h, f, h2, h3, h4⟩
    iterate 3
      rw [hE] at h
      subst h
      rw [hbad (by decide), hE] at HF
      clear hE hbad
      go_enter Try.func11, Try.ntmps11
      go_wp2_with (first | (go_at_call 17; refine (there_any B _).mono ?_; rintro e u1 ⟨rfl, rfl⟩) | (go_at_call 19; (try rw [hW]); (try rw [hw1]); refine HC.out.mono ?_; rintro e u2 ⟨rfl, k2⟩) | (go_at_call 21; refine (HF.out _ (HK1.out.trans k2)).mono ?_; rintro e u3 ⟨rfl, k3⟩))
      go_ret
      exact ⟨_, rfl, BAD.out _ _ ((HK1.out.trans k2).trans k3) (by decide) HEE.out.symm⟩
    rw [hE] at h
    subst h
    rw [h2, hE] at HF
    simp only [pv, Option.map_some] at HF
    have hin := HD.out.inN s f h3
    have HDO := hid fun (u : World) (k : Kept w u) => do_any O B a d ⟨3, s, t, 0, f, []⟩ (.slice none 0 0) u (HD.out.kept k) ⟨Rb.nil _, fun b hb => absurd hb (ob_nil b), fun b f hb => absurd hb (ob_nil b), hin.1, hin.2, okN_size HOT.out⟩ (Int.le_refl 0) HQ.out (by simp; omega)
    have HBN := hid fun (u : World) (k : Kept w u) => burn_disk O B a d u (HD.out.kept k)
    have HF3 := hid h3
    have HF4 := hid h4
    clear hE hbad h2 h3 h4 hin
    by_cases hst : s = t
    · have HST := hid hst
      subst hst
      go_enter Try.func11, Try.ntmps11
      go_wp2_with (first | (go_at_call 17; refine (there_any B _).mono ?_; rintro e u1 ⟨rfl, rfl⟩) | (go_at_call 19; (try rw [hW]); (try rw [hw1]); refine HC.out.mono ?_; rintro e u2 ⟨rfl, k2⟩) | (go_at_call 21; refine (HF.out _ (HK1.out.trans k2)).mono ?_; rintro e u3 ⟨rfl, k3⟩) | (go_at_call 23; refine (HBN.out _ ((HK1.out.trans k2).trans k3)).mono ?_; rintro e u4 ⟨rfl, s4, d4⟩))
      go_ret
      exact ⟨0, rfl, O, a, _, ((Stp.refl w O).kept ((HK1.out.trans k2).trans k3)).trans s4, d4, (HQ.out.burn).mono (by omega), fun f h => h, .inr ⟨rfl, HOT.out, HEE.out, f, HF3.out, HF4.out, by rw [if_pos rfl]⟩⟩
    · have hne : (s.toList == t.toList) = false := by
        rw [beq_eq_false_iff_ne]
        intro e
        rw [ByteArray.toList_eq, ByteArray.toList_eq] at e
        refine hst ?_
        cases s
        cases t
        simp only [ByteArray.mk.injEq]
        exact Array.toList_inj.1 e
      have HST := hid hst
      clear hst
      go_enter Try.func11, Try.ntmps11
      go_wp2_with (first | (go_at_call 17; refine (there_any B _).mono ?_; rintro e u1 ⟨rfl, rfl⟩) | (go_at_call 19; (try rw [hW]); (try rw [hw1]); refine HC.out.mono ?_; rintro e u2 ⟨rfl, k2⟩) | (go_at_call 21; refine (HF.out _ (HK1.out.trans k2)).mono ?_; rintro e u3 ⟨rfl, k3⟩) | (go_at_call 22; refine (HDO.out _ ((HK1.out.trans k2).trans k3)).mono ?_; rintro e u4 ⟨rfl, O4, a4, s4, d4, f4⟩) | (go_at_call 23; refine (burn_disk O4 B a4 _ u4 d4).mono ?_; rintro e u5 ⟨rfl, s5, d5⟩))
      go_ret
      exact ⟨0, rfl, O4, a4, _, (((Stp.refl w O).kept ((HK1.out.trans k2).trans k3)).trans s4).trans s5, d5, ((HQ.out.do_ ⟨3, s, t, 0, f, []⟩ (Int.le_refl 0)).burn).mono (by simp), f4, .inr ⟨rfl, HOT.out, HEE.out, f, HF3.out, HF4.out, by rw [if_neg HST.out]⟩⟩
end Go.Proofs.Ythaiejmajhmahab
