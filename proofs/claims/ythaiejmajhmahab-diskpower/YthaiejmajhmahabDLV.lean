/- Package disk: Write, Append, Fuse, On, Remove, Read, Flush, Sync, Rename. -/
import Derived.Test.YthaiejmajhmahabDLU
namespace Go.Proofs.Ythaiejmajhmahab
open Go.ChangeShapes Go.WideShapes Go.ChangeAt Go.RowKit Go.Maps
set_option linter.unusedVariables false
set_option linter.unusedSimpArgs false

theorem write_any (s : ByteArray) (bval : Value) (b : List UInt8) (O : Nat → Prop) (B : Nat) (a : Da) (d : Dk) (w : World) (hd : DSt w O B a d) (q : Nat) (hq : Bd q d) (hq8 : q + b.length + 2 < 99999999) (hb : Rd w bval b) (hbO : ∀ c, ob bval c → ¬ O c) :
    Calls Try.prog 6 #[.pointer (some ⟨B, 0, none⟩), .string s, bval] w fun e w' => ∃ E, e = .returned (.int .i64 E) ∧ Turn w O B a (q + 2 + b.length) (PutR a.Fs 1 s b d E) w' := by
  have HP := hid (put_any 1 (.inl rfl) s bval b O B a d w hd q hq hq8 hb hbO)
  clear hd hq hb hbO
  go_enter Try.func6, Try.ntmps6
  go_wp2_with (first | (go_at_call 17; refine (there_any B _).mono ?_; rintro e u1 ⟨rfl, rfl⟩) | (go_at_call 18; refine HP.out.mono ?_; rintro e u2 ⟨E, rfl, h2⟩))
  go_ret
  exact ⟨E, rfl, h2⟩
theorem append_any (s : ByteArray) (bval : Value) (b : List UInt8) (O : Nat → Prop) (B : Nat) (a : Da) (d : Dk) (w : World) (hd : DSt w O B a d) (q : Nat) (hq : Bd q d) (hq8 : q + b.length + 2 < 99999999) (hb : Rd w bval b) (hbO : ∀ c, ob bval c → ¬ O c) :
    Calls Try.prog 9 #[.pointer (some ⟨B, 0, none⟩), .string s, bval] w fun e w' => ∃ E, e = .returned (.int .i64 E) ∧ Turn w O B a (q + 2 + b.length) (PutR a.Fs 2 s b d E) w' := by
  have HP := hid (put_any 2 (.inr rfl) s bval b O B a d w hd q hq hq8 hb hbO)
  clear hd hq hb hbO
  go_enter Try.func9, Try.ntmps9
  go_wp2_with (first | (go_at_call 17; refine (there_any B _).mono ?_; rintro e u1 ⟨rfl, rfl⟩) | (go_at_call 18; refine HP.out.mono ?_; rintro e u2 ⟨E, rfl, h2⟩))
  go_ret
  exact ⟨E, rfl, h2⟩
theorem on_any (O : Nat → Prop) (B : Nat) (a : Da) (d : Dk) (w : World) (hd : DSt w O B a d) :
    Calls Try.prog 13 #[.pointer (some ⟨B, 0, none⟩)] w fun e w' => e = .returned (.bool d.on) ∧ w' = w := by
  have c0 := hd.blk.cell 0 _ rfl
  clear hd
  go_enter Try.func13, Try.ntmps13
  go_wp2_with (first | (go_at_call 17; refine (there_any B _).mono ?_; rintro e u1 ⟨rfl, rfl⟩))
  go_ret
  exact ⟨rfl, rfl⟩
/-- What Fuse makes of a disk. -/
def FuseR (n : Int) (d : Dk) (E : Int) (d' : Dk) : Prop :=
  (n < 0 ∧ E = 1 ∧ d' = d) ∨ (0 ≤ n ∧ d.on = false ∧ E = 63 ∧ d' = d) ∨ (0 ≤ n ∧ d.on = true ∧ E = 0 ∧ d' = { d with on := decide (0 < n), fused := true, left := n })
theorem fuse_any (n : Int) (O : Nat → Prop) (B : Nat) (a : Da) (d : Dk) (w : World) (hd : DSt w O B a d) (q : Nat) (hq : Bd q d) :
    Calls Try.prog 7 #[.pointer (some ⟨B, 0, none⟩), .int .i64 n] w fun e w' => ∃ E, e = .returned (.int .i64 E) ∧ Turn w O B a q (FuseR n d E) w' := by
  have HC := hid (check0 B a d w hd.blk)
  have HD := hid hd
  have HQ := hid hq
  obtain ⟨on, hon⟩ : ∃ on, d.on = on := ⟨_, rfl⟩
  rw [hon] at HC
  have HON := hid hon
  clear hd hq hon
  by_cases hn : n < 0
  · go_enter Try.func7, Try.ntmps7
    go_wp2_with (first | (go_at_call 17; refine (there_any B _).mono ?_; rintro e u1 ⟨rfl, rfl⟩))
    go_ret
    exact ⟨1, rfl, O, a, d, Stp.refl _ O, HD.out, HQ.out, fun f h => h, .inl ⟨hn, rfl, rfl⟩⟩
  · cases on
    · go_enter Try.func7, Try.ntmps7
      go_wp2_with (first | (go_at_call 17; refine (there_any B _).mono ?_; rintro e u1 ⟨rfl, rfl⟩) | (go_at_call 19; refine HC.out.mono ?_; rintro e u2 ⟨rfl, k2⟩))
      go_ret
      exact ⟨63, rfl, O, a, d, (Stp.refl _ O).kept k2, HD.out.kept k2, HQ.out, fun f h => h, .inr (.inl ⟨(by first | exact hn | exact Int.not_lt.1 hn), HON.out, rfl, rfl⟩)⟩
    · have HN := hid (Int.not_lt.1 hn)
      go_enter Try.func7, Try.ntmps7
      go_wp2_with (first | (go_at_call 17; refine (there_any B _).mono ?_; rintro e u1 ⟨rfl, rfl⟩) | (go_at_call 19; refine HC.out.mono ?_; rintro e u2 ⟨rfl, k2⟩) | (go_at_call 20; refine (light_any B 47 d.on d.fused d.left n _ u2 (HD.out.kept k2).blk).mono ?_; rintro e u3 ⟨rfl, k3, a3⟩))
      go_ret
      exact ⟨0, rfl, O, a, _, ((Stp.refl _ O).kept k2).trans (stp_names k3 HD.out.oB), (HD.out.kept k2).power k3 _ true n a3, ⟨HQ.out.nn, HQ.out.nf, HQ.out.cn, HQ.out.cf, HQ.out.ln⟩, fun f h => h, .inr (.inr ⟨HN.out, HON.out, rfl, rfl⟩)⟩
/-- What Remove makes of a disk. -/
def RemR (s : ByteArray) (d : Dk) (E : Int) (d' : Dk) : Prop :=
  E = fndE d s ∧ ((E ≠ 0 ∧ d' = d) ∨ (E = 0 ∧ ∃ f, d.nN s = some f ∧ okN s = true ∧ d' = burnD (doD ⟨4, s, ⟨#[]⟩, 0, f, []⟩ d)))
theorem remove_any (s : ByteArray) (O : Nat → Prop) (B : Nat) (a : Da) (d : Dk) (w : World) (hd : DSt w O B a d) (q : Nat) (hq : Bd q d) (hq8 : q + 2 < 99999999) :
    Calls Try.prog 8 #[.pointer (some ⟨B, 0, none⟩), .string s] w fun e w' => ∃ E, e = .returned (.int .i64 E) ∧ Turn w O B a (q + 1) (RemR s d E) w' := by
  have HF := hid (find_any O B a d s w hd)
  have HD := hid hd
  have HQ := hid hq
  obtain ⟨E, hE⟩ : ∃ E, fndE d s = E := ⟨_, rfl⟩
  have HE := hid hE
  have hbad : E ≠ 0 → fndF d s = none := fun h => if_neg (by rw [hE]; exact h)
  rcases fndE_cases d s with h | h | ⟨h, h2, h3⟩ | ⟨h, f, h2, h3, h4⟩
  iterate 3
    rw [hE] at h
    subst h
    rw [hbad (by decide), hE] at HF
    clear hd hq hE hbad
    go_enter Try.func8, Try.ntmps8
    go_wp2_with (first | (go_at_call 17; refine (there_any B _).mono ?_; rintro e u1 ⟨rfl, rfl⟩) | (go_at_call 21; refine HF.out.mono ?_; rintro e u2 ⟨rfl, k2⟩))
    go_ret
    exact ⟨_, rfl, O, a, d, (Stp.refl _ O).kept k2, HD.out.kept k2, HQ.out.mono (by omega), fun f h => h, HE.out.symm, .inl ⟨by decide, rfl⟩⟩
  · rw [hE] at h
    subst h
    rw [h2, hE] at HF
    simp only [pv, Option.map_some] at HF
    have hin := hd.inN s f h3
    have HDO := hid fun (u : World) (k : Kept w u) => do_any O B a d ⟨4, s, ⟨#[]⟩, 0, f, []⟩ (.slice none 0 0) u (hd.kept k) ⟨Rb.nil _, fun b hb => absurd hb (ob_nil b), fun b f hb => absurd hb (ob_nil b), hin.1, hin.2, (show (⟨#[]⟩ : ByteArray).size ≤ 32 from by decide)⟩ (Int.le_refl 0) hq (by simp; omega)
    have HF3 := hid h3
    have HF4 := hid h4
    clear hd hq hE hbad h2 h3 h4 hin
    go_enter Try.func8, Try.ntmps8
    go_wp2_with (first | (go_at_call 17; refine (there_any B _).mono ?_; rintro e u1 ⟨rfl, rfl⟩) | (go_at_call 21; refine HF.out.mono ?_; rintro e u2 ⟨rfl, k2⟩) | (go_at_call 22; refine (HDO.out _ k2).mono ?_; rintro e u3 ⟨rfl, O3, a3, s3, d3, f3⟩) | (go_at_call 23; refine (burn_disk O3 B a3 _ u3 d3).mono ?_; rintro e u4 ⟨rfl, s4, d4⟩))
    go_ret
    exact ⟨0, rfl, O3, a3, _, (((Stp.refl _ O).kept k2).trans s3).trans s4, d4, ((HQ.out.do_ ⟨4, s, ⟨#[]⟩, 0, f, []⟩ (Int.le_refl 0)).burn).mono (by simp), f3, HE.out.symm, .inr ⟨rfl, f, HF3.out, HF4.out, rfl⟩⟩
theorem read_any (s : ByteArray) (O : Nat → Prop) (B : Nat) (a : Da) (d : Dk) (w : World) (hd : DSt w O B a d) (q : Nat) (hq : Bd q d) (hq8 : q < 99999999) :
    Calls Try.prog 14 #[.pointer (some ⟨B, 0, none⟩), .string s] w fun e w' => Kept w w' ∧ ∃ v l, e = .returned (.tuple #[v, .int .i64 (fndE d s)]) ∧ Rb w' v l ∧ (∀ b, ob v b → w.heap.size ≤ b) ∧ ((fndE d s ≠ 0 ∧ l = [] ∧ v = .slice none 0 0) ∨ (fndE d s = 0 ∧ ∃ f, d.nN s = some f ∧ l = d.cn f)) := by
  have HF := hid (find_any O B a d s w hd)
  have HD := hid hd
  have HQ := hid hq
  obtain ⟨E, hE⟩ : ∃ E, fndE d s = E := ⟨_, rfl⟩
  have hbad : E ≠ 0 → fndF d s = none := fun h => if_neg (by rw [hE]; exact h)
  rcases fndE_cases d s with h | h | ⟨h, h2, h3⟩ | ⟨h, f, h2, h3, h4⟩
  iterate 3
    rw [hE] at h
    subst h
    rw [hbad (by decide), hE] at HF
    rw [hE]
    clear hd hq hE hbad
    go_enter Try.func14, Try.ntmps14
    go_wp2_with (first | (go_at_call 17; refine (there_any B _).mono ?_; rintro e u1 ⟨rfl, rfl⟩) | (go_at_call 21; refine HF.out.mono ?_; rintro e u2 ⟨rfl, k2⟩))
    go_ret2
    exact ⟨k2, _, _, rfl, Rb.nil _, fun b hb => absurd hb (ob_nil b), .inl ⟨by decide, rfl, rfl⟩⟩
  · rw [hE] at h
    subst h
    rw [h2, hE] at HF
    rw [hE]
    simp only [pv, Option.map_some] at HF
    have hin := hd.inN s f h3
    have hrn := hd.fls.rn f hin.1
    have hbk := hd.fls.blk f hin.1
    obtain ⟨ar, cr, hv⟩ := hrn.form
    rw [hv] at hrn hbk
    have HB := hid hbk
    have HCL := hid fun (u : World) (k : Kept w u) => clone_any _ (d.cn f) u (Rb.rd (Rb.kept hrn k)) (by have := hq.cn f; omega)
    have HF3 := hid h3
    clear hd hq hE hbad h2 h3 h4 hin hrn hbk hv
    obtain ⟨nr, hnr⟩ : ∃ nr, (d.cn f).length = nr := ⟨_, rfl⟩
    rw [hnr] at HB HCL
    clear hnr
    go_enter Try.func14, Try.ntmps14
    go_wp2_with (first | (go_at_call 17; refine (there_any B _).mono ?_; rintro e u1 ⟨rfl, rfl⟩) | (go_at_call 21; refine HF.out.mono ?_; rintro e u2 ⟨rfl, k2⟩; have c0 := (HB.out.kept k2).cell 0 _ rfl) | (go_at_call 28; refine (HCL.out _ k2).mono ?_; rintro e u3 ⟨v3, rfl, r3, k3, o3⟩))
    go_ret2
    exact ⟨k2.trans k3, v3, _, rfl, r3, fun b hb => Nat.le_trans k2.below.size (o3 b hb), .inr ⟨(by first | rfl | trivial), f, HF3.out, rfl⟩⟩
end Go.Proofs.Ythaiejmajhmahab
