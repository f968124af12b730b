/- DiskNames: which names there are, said by each call. -/
import Derived.Test.YthaiejmajhmahabDMC
import Derived.Laws.Strings
namespace Go.Proofs.Ythaiejmajhmahab
open Go.ChangeShapes Go.WideShapes Go.ChangeAt Go.RowKit Go.Maps
set_option linter.unusedVariables false
set_option linter.unusedSimpArgs false

abbrev qN : ByteArray := ⟨#[113]⟩
abbrev pN : ByteArray := ⟨#[112]⟩
abbrev noneN : ByteArray := ⟨#[110, 111, 110, 101]⟩
theorem okN_q : okN qN = true := by decide
theorem okN_p : okN pN = true := by decide
theorem okN_none : okN noneN = true := by decide
/-- A disk of one name. -/
theorem full_one {M : Nms} {a : ByteArray} {f : Nat} (h1 : M a = some f) (h2 : ∀ s g, M s = some g → s = a ∧ g = f) {N : List (ByteArray × Nat)} (h : Full M N) : N.length = 1 := by
  have h' : Full M [(a, f)] := ⟨by simp, fun s g => by
    rw [List.mem_singleton, Prod.mk.injEq]
    exact ⟨fun ⟨e1, e2⟩ => by subst e1; subst e2; exact ⟨h1, rfl⟩, fun ⟨e, _⟩ => h2 s g e⟩⟩
  exact h.len h'
theorem burnD_no {d : Dk} (h : d.fused = false) : burnD d = d := by
  unfold burnD
  rw [h]
  rfl
def Q1 (d : Dk) : Prop := d.on = true ∧ d.fused = false ∧ d.rf = 3 ∧ d.rb = 100 ∧ (∀ f, d.cn f = []) ∧ ∃ a f, d.nN a = some f ∧ ∀ s g, d.nN s = some g → s = a ∧ g = f
def Nm (s : ByteArray) (d : Dk) : Prop := d.on = true ∧ d.fused = false ∧ ∃ f, d.nN s = some f
theorem nq1 {F : Nat → Prop} {E : Int} {d' : Dk} (h : PutR F 1 qN [] (dNew 3 100) E d') : E = 0 ∧ Q1 d' := by
  have hf : fndE (dNew 3 100) qN = 60 := by
    unfold fndE
    rw [okN_q]
    rfl
  rcases h with ⟨h1, h2, -⟩ | ⟨-, N, hN, h⟩ | ⟨h1, -⟩
  · rw [h1, hf] at h2
    rcases h2 with h2 | h2 <;> cases h2
  · have hN0 := full_noN hN
    subst hN0
    rcases h with ⟨-, -, h⟩ | ⟨h1, -, f, -, h⟩
    · exfalso
      simp [sumN, dNew] at h
    · refine ⟨h1, ?_⟩
      rw [burnD_no rfl] at h
      subst h
      refine ⟨rfl, rfl, rfl, rfl, fun g => ?_, qN, f, by simp [doD, ofN, nameN, giveN], fun s g hs => ?_⟩
      · simp [doD, ofN, up, ontoL, dNew]
      · by_cases e : s = qN
        · subst e
          simp [doD, ofN, nameN, giveN] at hs
          exact ⟨rfl, hs.symm⟩
        · simp [doD, ofN, nameN, giveN, e, dNew, noN] at hs
  · rw [hf] at h1
    cases h1
theorem fnd_of {d : Dk} {s : ByteArray} (h1 : okN s = true) (h2 : d.on = true) : fndE d s = if (d.nN s).isSome then 0 else 60 := by
  unfold fndE
  rw [if_pos h1, if_pos h2]
theorem Nm.fnd {d : Dk} {s : ByteArray} (h : Nm s d) (h1 : okN s = true) : fndE d s = 0 := by
  obtain ⟨h2, -, f, h3⟩ := h
  rw [fnd_of h1 h2, h3]
  rfl
theorem nq2 {F : Nat → Prop} {E : Int} {d d' : Dk} {s : ByteArray} (hs : okN s = true) (hd : Q1 d) (h : PutR F 1 s [] d E d') : E = 0 ∧ Nm s d' := by
  obtain ⟨h1, h2, h3, h4, h5, a, f, h6, h7⟩ := hd
  have hf := fnd_of (d := d) hs h1
  have hsum : ∀ N, sumN d.cn N = 0 := fun N => by
    have := sumN_le (c := d.cn) (q := 0) (N := N) fun p _ => by rw [h5]; exact Nat.le_refl _
    omega
  rcases h with ⟨e1, e2, -⟩ | ⟨e0, N, hN, h⟩ | ⟨e0, N, g, hN, hg, h⟩
  · rw [hf] at e1
    exfalso
    split at e1 <;> (subst e1; rcases e2 with e2 | e2 <;> cases e2)
  · have hl := full_one h6 h7 hN
    rw [hl, hsum, h3, h4] at h
    rcases h with ⟨-, -, h⟩ | ⟨e1, -, g, -, h⟩
    · exfalso
      simp at h
    · refine ⟨e1, ?_⟩
      rw [burnD_no (by simpa [doD, ofN] using h2)] at h
      subst h
      exact ⟨by simpa [doD, ofN] using h1, by simpa [doD, ofN] using h2, g, by simp [doD, ofN, nameN, giveN]⟩
  · have hl := full_one h6 h7 hN
    rw [hl, hsum, h3, h4, h5] at h
    rcases h with ⟨-, -, h⟩ | ⟨e1, -, h⟩
    · exfalso
      simp at h
    · refine ⟨e1, ?_⟩
      rw [burnD_no (by simpa [doD, ofN] using h2)] at h
      subst h
      exact ⟨by simpa [doD, ofN] using h1, by simpa [doD, ofN] using h2, g, by simpa [doD, ofN] using hg⟩
theorem nq3 {E : Int} {d d' : Dk} {s t : ByteArray} (hs : okN s = true) (ht : okN t = true) (hd : Nm s d) (h : RenR s t d E d') : E = 0 ∧ Nm t d' := by
  have hf := hd.fnd hs
  obtain ⟨h1, h2, f, h3⟩ := hd
  rcases h with ⟨e0, -, e⟩ | ⟨e0, -, -, g, hg, -, h⟩
  · rw [if_pos ht, hf] at e
    exact absurd e e0
  · refine ⟨e0, ?_⟩
    by_cases hst : s = t
    · subst hst
      rw [if_pos rfl, burnD_no h2] at h
      subst h
      exact ⟨h1, h2, f, h3⟩
    · rw [if_neg hst, burnD_no (by simpa [doD, ofN] using h2)] at h
      subst h
      exact ⟨by simpa [doD, ofN] using h1, by simpa [doD, ofN] using h2, g, by simp [doD, ofN, nameN, giveN]⟩
theorem nq4 {E : Int} {d d' : Dk} {s : ByteArray} (hs : okN s = true) (hd : Nm s d) (h : RemR s d E d') : E = 0 := by
  rw [h.1]
  exact hd.fnd hs
theorem fnd_bad (d : Dk) {s : ByteArray} (h : okN s = false) : fndE d s = 61 := by
  unfold fndE
  rw [h]
  rfl
theorem nb1 {F : Nat → Prop} {k : Int} {b : List UInt8} {E : Int} {d d' : Dk} {s : ByteArray} (hs : okN s = false) (h : PutR F k s b d E d') : E = 61 := by
  have hf := fnd_bad d hs
  rcases h with ⟨e1, -⟩ | ⟨e0, -⟩ | ⟨e0, -⟩
  · exact e1.trans hf
  · rw [hf] at e0; cases e0
  · rw [hf] at e0; cases e0
theorem nb3 {E : Int} {d d' : Dk} {s t : ByteArray} (hs : okN s = false ∨ okN t = false) (h : RenR s t d E d') : E = 61 := by
  rcases h with ⟨e0, -, e⟩ | ⟨-, h1, h2, -⟩
  · rw [e]
    split
    · rename_i h
      rcases hs with hs | hs
      · exact fnd_bad d hs
      · rw [h] at hs; cases hs
    · rfl
  · rcases hs with hs | hs
    · rw [fnd_bad d hs] at h2; cases h2
    · rw [h1] at hs; cases hs
abbrev Tt : Dk → Prop := fun _ => True
section
variable {w0 u : World} {B q : Nat} {R : Dk → Prop} {s t : ByteArray}
theorem nQ (h : On1 w0 B 0 (fun d => d = dNew 3 100) u) :
    Calls Try.prog 6 #[.pointer (some ⟨B, 0, none⟩), .string qN, .slice none 0 0] u fun e w' => e = .returned (.int .i64 0) ∧ On1 w0 B 2 Q1 w' := by
  refine (h.write (Kept.refl u) qN _ [] (by decide) (Rd.nil u) fun c hc => absurd hc (ob_nil c)).mono ?_
  rintro e w' ⟨E, rfl, hT⟩
  obtain ⟨rfl, hT2⟩ := hT.conv (P := E = 0) (R' := Q1) (Nat.le_refl 2) fun d' ⟨d, F, hd, hp⟩ => by
    subst hd
    exact nq1 hp
  exact ⟨rfl, hT2⟩
theorem nW (hs : okN s = true) (h : On1 w0 B 2 Q1 u) :
    Calls Try.prog 6 #[.pointer (some ⟨B, 0, none⟩), .string s, .slice none 0 0] u fun e w' => e = .returned (.int .i64 0) ∧ On1 w0 B 4 (Nm s) w' := by
  refine (h.write (Kept.refl u) s _ [] (by decide) (Rd.nil u) fun c hc => absurd hc (ob_nil c)).mono ?_
  rintro e w' ⟨E, rfl, hT⟩
  obtain ⟨rfl, hT2⟩ := hT.conv (P := E = 0) (R' := Nm s) (Nat.le_refl 4) fun d' ⟨d, F, hd, hp⟩ => nq2 hs hd hp
  exact ⟨rfl, hT2⟩
theorem nR (hs : okN s = true) (ht : okN t = true) (hq : q < 1000) (h : On1 w0 B q (Nm s) u) :
    Calls Try.prog 11 #[.pointer (some ⟨B, 0, none⟩), .string s, .string t] u fun e w' => e = .returned (.int .i64 0) ∧ On1 w0 B (q + 1) (Nm t) w' := by
  refine (h.rename s t (by omega)).mono ?_
  rintro e w' ⟨E, rfl, hT⟩
  obtain ⟨rfl, hT2⟩ := hT.conv (P := E = 0) (R' := Nm t) (Nat.le_refl (q + 1)) fun d' ⟨d, hd, hp⟩ => nq3 hs ht hd hp
  exact ⟨rfl, hT2⟩
theorem nM (hs : okN s = true) (hq : q < 1000) (h : On1 w0 B q (Nm s) u) :
    Calls Try.prog 8 #[.pointer (some ⟨B, 0, none⟩), .string s] u fun e w' => e = .returned (.int .i64 0) ∧ Kept w0 w' := by
  refine (h.remove s (by omega)).mono ?_
  rintro e w' ⟨E, rfl, hT⟩
  obtain ⟨rfl, hT2⟩ := hT.conv (P := E = 0) (R' := Tt) (Nat.le_refl (q + 1)) fun d' ⟨d, hd, hp⟩ => ⟨nq4 hs hd hp, trivial⟩
  exact ⟨rfl, hT2.k⟩
theorem bW (hs : okN s = false) (hq : q < 1000) (h : On1 w0 B q R u) :
    Calls Try.prog 6 #[.pointer (some ⟨B, 0, none⟩), .string s, .slice none 0 0] u fun e w' => e = .returned (.int .i64 61) ∧ On1 w0 B (q + 2) Tt w' := by
  refine (h.write (Kept.refl u) s _ [] (by simp; omega) (Rd.nil u) fun c hc => absurd hc (ob_nil c)).mono ?_
  rintro e w' ⟨E, rfl, hT⟩
  obtain ⟨rfl, hT2⟩ := hT.conv (P := E = 61) (R' := Tt) (Nat.le_refl (q + 2)) fun d' ⟨d, F, hd, hp⟩ => ⟨nb1 hs hp, trivial⟩
  exact ⟨rfl, hT2⟩
theorem bA (hs : okN s = false) (hq : q < 1000) (h : On1 w0 B q R u) :
    Calls Try.prog 9 #[.pointer (some ⟨B, 0, none⟩), .string s, .slice none 0 0] u fun e w' => e = .returned (.int .i64 61) ∧ On1 w0 B (q + 2) Tt w' := by
  refine (h.append (Kept.refl u) s _ [] (by simp; omega) (Rd.nil u) fun c hc => absurd hc (ob_nil c)).mono ?_
  rintro e w' ⟨E, rfl, hT⟩
  obtain ⟨rfl, hT2⟩ := hT.conv (P := E = 61) (R' := Tt) (Nat.le_refl (q + 2)) fun d' ⟨d, F, hd, hp⟩ => ⟨nb1 hs hp, trivial⟩
  exact ⟨rfl, hT2⟩
theorem bF (hs : okN s = false) (hq : q < 1000) (h : On1 w0 B q R u) :
    Calls Try.prog 10 #[.pointer (some ⟨B, 0, none⟩), .string s] u fun e w' => e = .returned (.int .i64 61) ∧ On1 w0 B q Tt w' := by
  refine (h.flush s (by omega)).mono ?_
  rintro e w' ⟨E, rfl, hT⟩
  obtain ⟨rfl, hT2⟩ := hT.conv (P := E = 61) (R' := Tt) (Nat.le_refl q) fun d' ⟨d, hd, hp⟩ => ⟨hp.1.trans (fnd_bad d hs), trivial⟩
  exact ⟨rfl, hT2⟩
theorem bR (hs : okN s = false ∨ okN t = false) (hq : q < 1000) (h : On1 w0 B q R u) :
    Calls Try.prog 11 #[.pointer (some ⟨B, 0, none⟩), .string s, .string t] u fun e w' => e = .returned (.int .i64 61) ∧ On1 w0 B (q + 1) Tt w' := by
  refine (h.rename s t (by omega)).mono ?_
  rintro e w' ⟨E, rfl, hT⟩
  obtain ⟨rfl, hT2⟩ := hT.conv (P := E = 61) (R' := Tt) (Nat.le_refl (q + 1)) fun d' ⟨d, hd, hp⟩ => ⟨nb3 hs hp, trivial⟩
  exact ⟨rfl, hT2⟩
theorem bM (hs : okN s = false) (hq : q < 1000) (h : On1 w0 B q R u) :
    Calls Try.prog 8 #[.pointer (some ⟨B, 0, none⟩), .string s] u fun e w' => e = .returned (.int .i64 61) ∧ On1 w0 B (q + 1) Tt w' := by
  refine (h.remove s (by omega)).mono ?_
  rintro e w' ⟨E, rfl, hT⟩
  obtain ⟨rfl, hT2⟩ := hT.conv (P := E = 61) (R' := Tt) (Nat.le_refl (q + 1)) fun d' ⟨d, hd, hp⟩ => ⟨hp.1.trans (fnd_bad d hs), trivial⟩
  exact ⟨rfl, hT2⟩
theorem bZ (h : On1 w0 B q R u) (n : Int) :
    Calls Try.prog 7 #[.pointer (some ⟨B, 0, none⟩), .int .i64 n] u fun e w' => (∃ E, e = .returned (.int .i64 E)) ∧ On1 w0 B q Tt w' := by
  refine (h.fuse n).mono ?_
  rintro e w' ⟨E, rfl, hT⟩
  exact ⟨⟨E, rfl⟩, hT.imp (Nat.le_refl q) fun _ _ => trivial⟩
theorem bD (hs : okN s = false) (hq : q < 1000) (h : On1 w0 B q R u) :
    Calls Try.prog 14 #[.pointer (some ⟨B, 0, none⟩), .string s] u fun e w' => e = .returned (.tuple #[.slice none 0 0, .int .i64 61]) ∧ On1 w0 B q Tt w' := by
  obtain ⟨d, hd, hc⟩ := h.read s (by omega)
  rw [fnd_bad d hs] at hc
  refine hc.mono ?_
  rintro e w' ⟨k, v, l, rfl, hr, -, h4⟩
  rcases h4 with ⟨-, -, rfl⟩ | ⟨h4, -⟩
  · exact ⟨rfl, (h.kept k).imp (Nat.le_refl q) fun _ _ => trivial⟩
  · cases h4
end
end Go.Proofs.Ythaiejmajhmahab
