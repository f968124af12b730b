/- DiskPower: behind a fuse of n just n steps are made. -/
import Derived.Test.YthaiejmajhmahabDMD
namespace Go.Proofs.Ythaiejmajhmahab
open Go.ChangeShapes Go.WideShapes Go.ChangeAt Go.RowKit Go.Maps
set_option linter.unusedVariables false
set_option linter.unusedSimpArgs false

/-- One name, a; its file has at most m bytes. -/
def Oa (m : Nat) (d : Dk) : Prop := (∃ f, d.nN aN = some f ∧ (∀ s g, d.nN s = some g → s = aN ∧ g = f) ∧ (d.cn f).length ≤ m) ∧ d.rf = 4 ∧ d.rb = 100
theorem Oa.mono {m m' : Nat} {d : Dk} (h : Oa m d) (hm : m ≤ m') : Oa m' d := by
  obtain ⟨⟨f, h1, h2, h3⟩, h4⟩ := h
  exact ⟨⟨f, h1, h2, Nat.le_trans h3 hm⟩, h4⟩
theorem Oa.like {m : Nat} {d d' : Dk} (h : Oa m d) (e1 : d'.nN = d.nN) (e2 : ∀ f, d.nN aN = some f → d'.cn f = d.cn f) (e3 : d'.rf = d.rf) (e4 : d'.rb = d.rb) : Oa m d' := by
  obtain ⟨⟨f, h1, h2, h3⟩, h4, h5⟩ := h
  refine ⟨⟨f, by rw [e1]; exact h1, by rw [e1]; exact h2, by rw [e2 f h1]; exact h3⟩, e3.trans h4, e4.trans h5⟩
/-- The fuse, when i of n steps are made. -/
def Pw (n i : Nat) (d : Dk) : Prop := Oa (1 + i) d ∧ d.fused = true ∧ d.on = decide (i < n) ∧ (i ≤ n → d.left = (n : Int) - i)
theorem Pw.off {n i : Nat} {d : Dk} (h : Pw n i d) (hi : ¬ i < n) : Pw n (i + 1) d := by
  obtain ⟨h1, h2, h3, h4⟩ := h
  refine ⟨h1.mono (by omega), h2, ?_, fun h => by omega⟩
  rw [h3, decide_eq_false hi, decide_eq_false (by omega)]
theorem Pw.burn {n i : Nat} {d : Dk} (hn : n ≤ 31) (hi : i < n) (h1 : Oa (1 + (i + 1)) d) (h2 : d.fused = true) (h4 : d.left = (n : Int) - i) : Pw n (i + 1) (burnD d) := by
  have hb : burnD d = { d with on := decide (0 < wrap64 (d.left - 1)), left := wrap64 (d.left - 1) } := if_pos h2
  have hl : wrap64 (d.left - 1) = (n : Int) - (i + 1 : Nat) := by
    rw [h4]
    unfold wrap64
    omega
  rw [hb]
  refine ⟨h1.like rfl (fun _ _ => rfl) rfl rfl, h2, ?_, fun _ => hl⟩
  show decide (0 < wrap64 (d.left - 1)) = _
  rw [hl]
  exact decide_eq_decide.2 ⟨fun h => by omega, fun h => by omega⟩
def E (n i : Nat) : Int := if i < n then 0 else 63
theorem pw_fnd {n i : Nat} {d : Dk} (h : Pw n i d) : fndE d aN = E n i := by
  obtain ⟨⟨⟨f, h1, -⟩, -⟩, -, h3, -⟩ := h
  unfold fndE E
  rw [okN_a, h1, h3]
  by_cases hi : i < n
  · rw [if_pos rfl, if_pos (decide_eq_true hi), if_pos hi]
    rfl
  · rw [if_pos rfl, decide_eq_false hi, if_neg hi]
    rfl
theorem pw0 {F : Nat → Prop} {e : Int} {d' : Dk} (h : PutR F 1 aN [49] (dNew 4 100) e d') : e = 0 ∧ Oa 1 d' ∧ d'.on = true := by
  have hf : fndE (dNew 4 100) aN = 60 := by
    unfold fndE
    rw [okN_a]
    rfl
  rcases h with ⟨h1, h2, -⟩ | ⟨-, N, hN, h⟩ | ⟨h1, -⟩
  · rw [h1, hf] at h2
    rcases h2 with h2 | h2 <;> cases h2
  · have hN0 := full_noN hN
    subst hN0
    rcases h with ⟨-, -, h⟩ | ⟨h1, -, f, -, h⟩
    · exfalso
      simp [sumN, dNew] at h
    · refine ⟨h1, ?_⟩
      rw [burnD_no rfl] at h
      subst h
      refine ⟨⟨⟨f, by simp [doD, ofN, nameN, giveN], fun s g hs => ?_, ?_⟩, rfl, rfl⟩, rfl⟩
      · by_cases e : s = aN
        · subst e
          simp [doD, ofN, nameN, giveN] at hs
          exact ⟨rfl, hs.symm⟩
        · simp [doD, ofN, nameN, giveN, e, dNew, noN] at hs
      · simp [doD, ofN, up, ontoL, dNew]
  · rw [hf] at h1
    cases h1
theorem pw1 {n : Nat} {e : Int} {d d' : Dk} (h1 : Oa 1 d) (h2 : d.on = true) (h : FuseR n d e d') : e = 0 ∧ Pw n 0 d' := by
  rcases h with ⟨h, -⟩ | ⟨-, h, -⟩ | ⟨-, -, e0, h⟩
  · omega
  · rw [h2] at h; cases h
  · subst h
    exact ⟨e0, h1.like rfl (fun _ _ => rfl) rfl rfl, rfl, decide_eq_decide.2 (by omega), fun _ => by simp⟩
theorem pwM {n i : Nat} {e : Int} {d d' : Dk} (h1 : Pw n i d) (h : RemR noneN d e d') : Pw n i d' := by
  have hne : e ≠ 0 := by
    obtain ⟨⟨⟨f, -, h2, -⟩, -⟩, -, -⟩ := h1
    rw [h.1]
    unfold fndE
    rw [okN_none]
    have : d.nN noneN = none := by
      cases e : d.nN noneN with
      | none => rfl
      | some g => exact absurd (h2 _ _ e).1 (by decide)
    rw [this]
    split
    · split
      · decide
      · decide
    · decide
  rcases h.2 with ⟨-, h⟩ | ⟨h, -⟩
  · rw [h]; exact h1
  · exact absurd h hne
theorem pwA {n i : Nat} {F : Nat → Prop} {e : Int} {d d' : Dk} (hn : n ≤ 31) (h1 : Pw n i d) (h : PutR F 2 aN [50] d e d') : e = E n i ∧ Pw n (i + 1) d' := by
  have hf := pw_fnd h1
  by_cases hi : i < n
  · have hE : E n i = 0 := if_pos hi
    rw [hE] at hf ⊢
    obtain ⟨⟨⟨f, h2, h3, h4⟩, h5, h6⟩, h7, h8, h9⟩ := h1
    rcases h with ⟨e1, e2, -⟩ | ⟨e0, -⟩ | ⟨-, N, g, hN, hg, h⟩
    · rw [e1, hf] at e2
      rcases e2 with e2 | e2 <;> cases e2
    · rw [hf] at e0; cases e0
    · have hl := full_one h2 h3 hN
      have hs : sumN d.cn N ≤ 1 + i := by
        have := sumN_le (c := d.cn) (q := 1 + i) (N := N) fun p hp => by
          have := (h3 p.1 p.2 ((hN.mem p.1 p.2).1 hp).1).2
          rw [this]
          exact h4
        rw [hl, Nat.one_mul] at this
        exact this
      rw [h2] at hg
      cases hg
      rcases h with ⟨-, -, h⟩ | ⟨e1, -, h⟩
      · exfalso
        simp at h
        omega
      · refine ⟨e1, ?_⟩
        rw [h]
        refine Pw.burn hn hi ⟨⟨f, h2, h3, ?_⟩, h5, h6⟩ h7 (h9 (by omega))
        simp [doD, ofN, up, ontoL]
        omega
  · have hE : E n i = 63 := if_neg hi
    rw [hE] at hf ⊢
    rcases h with ⟨e1, e2, h⟩ | ⟨e0, -⟩ | ⟨e0, -⟩
    · rw [h]
      exact ⟨e1.trans hf, h1.off hi⟩
    · rw [hf] at e0; cases e0
    · rw [hf] at e0; cases e0
theorem setD_same (p : Wk → Bool) (d : Dk) : (setD p d).on = d.on ∧ (setD p d).fused = d.fused ∧ (setD p d).left = d.left ∧ (setD p d).rf = d.rf ∧ (setD p d).rb = d.rb ∧ (setD p d).nN = d.nN ∧ (setD p d).cn = d.cn := by
  have H : ∀ (l : List Wk) (s : Dk × List Wk), (l.foldl (stepD p) s).1.on = s.1.on ∧ (l.foldl (stepD p) s).1.fused = s.1.fused ∧ (l.foldl (stepD p) s).1.left = s.1.left ∧ (l.foldl (stepD p) s).1.rf = s.1.rf ∧ (l.foldl (stepD p) s).1.rb = s.1.rb ∧ (l.foldl (stepD p) s).1.nN = s.1.nN ∧ (l.foldl (stepD p) s).1.cn = s.1.cn := by
    intro l
    induction l with
    | nil => intro s; exact ⟨rfl, rfl, rfl, rfl, rfl, rfl, rfl⟩
    | cons x r ih =>
      intro s
      obtain ⟨a1, a2, a3, a4, a5, a6, a7⟩ := ih (stepD p s x)
      have hs : (stepD p s x).1.on = s.1.on ∧ (stepD p s x).1.fused = s.1.fused ∧ (stepD p s x).1.left = s.1.left ∧ (stepD p s x).1.rf = s.1.rf ∧ (stepD p s x).1.rb = s.1.rb ∧ (stepD p s x).1.nN = s.1.nN ∧ (stepD p s x).1.cn = s.1.cn := by
        unfold stepD
        split
        · unfold fasD
          split <;> exact ⟨rfl, rfl, rfl, rfl, rfl, rfl, rfl⟩
        · exact ⟨rfl, rfl, rfl, rfl, rfl, rfl, rfl⟩
      obtain ⟨b1, b2, b3, b4, b5, b6, b7⟩ := hs
      exact ⟨a1.trans b1, a2.trans b2, a3.trans b3, a4.trans b4, a5.trans b5, a6.trans b6, a7.trans b7⟩
  exact H d.W (d, [])
theorem pwF {n i : Nat} {e : Int} {d d' : Dk} (hn : n ≤ 31) (h1 : Pw n i d) (h : FluR aN d e d') : e = E n i ∧ Pw n (i + 1) d' := by
  have hf := pw_fnd h1
  refine ⟨h.1.trans hf, ?_⟩
  by_cases hi : i < n
  · obtain ⟨h2, h7, h8, h9⟩ := h1
    rcases h.2 with ⟨h0, -⟩ | ⟨-, f, -, h⟩
    · rw [h.1, hf] at h0
      exact absurd (if_pos hi) h0
    · obtain ⟨b1, b2, b3, b4, b5, b6, b7⟩ := setD_same (ofF f) d
      rw [h]
      exact Pw.burn hn hi ((h2.mono (by omega)).like b6 (fun _ _ => by rw [b7]) b4 b5) (b2.trans h7) (b3.trans (h9 (by omega)))
  · rcases h.2 with ⟨-, h⟩ | ⟨h0, -⟩
    · rw [h]
      exact h1.off hi
    · rw [h.1, hf] at h0
      exact absurd h0 (by unfold E; rw [if_neg hi]; decide)
theorem pwN {n i : Nat} {e : Int} {d d' : Dk} (hn : n ≤ 31) (h1 : Pw n i d) (h : RenR aN aN d e d') : e = E n i ∧ Pw n (i + 1) d' := by
  have hf := pw_fnd h1
  by_cases hi : i < n
  · have hE : E n i = 0 := if_pos hi
    rw [hE] at hf ⊢
    obtain ⟨h2, h7, h8, h9⟩ := h1
    rcases h with ⟨h0, -, e0⟩ | ⟨e0, -, -, g, -, -, h⟩
    · rw [if_pos okN_a, hf] at e0
      exact absurd e0 h0
    · refine ⟨e0, ?_⟩
      rw [if_pos rfl] at h
      rw [h]
      exact Pw.burn hn hi (h2.mono (by omega)) h7 (h9 (by omega))
  · have hE : E n i = 63 := if_neg hi
    rw [hE] at hf ⊢
    rcases h with ⟨h0, h, e0⟩ | ⟨-, -, h0, -⟩
    · rw [if_pos okN_a, hf] at e0
      rw [h]
      exact ⟨e0, h1.off hi⟩
    · rw [hf] at h0; cases h0
theorem pwS {n i : Nat} {F : Nat → Prop} {e : Int} {d d' : Dk} (hn : n ≤ 31) (h1 : Pw n i d) (hF : ∀ s f, d.nN s = some f → F f) (h : SynR F d e d') : e = E n i ∧ Pw n (i + 1) d' := by
  by_cases hi : i < n
  · obtain ⟨h2, h7, h8, h9⟩ := h1
    rw [decide_eq_true hi] at h8
    rcases h with ⟨h0, -⟩ | ⟨-, e0, d1, hr, h⟩
    · rw [h8] at h0; cases h0
    · refine ⟨e0.trans (if_pos hi).symm, ?_⟩
      obtain ⟨b1, b2, b3, b4, b5, b6, b7⟩ := setD_same (fun x => ofN x.kind) d
      rw [h]
      have c1 : d1.nN = d.nN := by rw [hr.eq]; exact b6
      have c2 : d1.fused = d.fused := by rw [hr.eq]; exact b2
      have c3 : d1.left = d.left := by rw [hr.eq]; exact b3
      have c4 : d1.rf = d.rf := by rw [hr.eq]; exact b4
      have c5 : d1.rb = d.rb := by rw [hr.eq]; exact b5
      exact Pw.burn hn hi ((h2.mono (by omega)).like c1 (fun f hf => (hr.cn f (hF _ _ hf)).trans (by rw [b7])) c4 c5) (c2.trans h7) (c3.trans (h9 (by omega)))
  · obtain ⟨h2, h7, h8, h9⟩ := h1
    rw [decide_eq_false hi] at h8
    rcases h with ⟨-, e0, h⟩ | ⟨h0, -⟩
    · rw [h]
      refine ⟨e0.trans (if_neg hi).symm, Pw.off ⟨h2, h7, ?_, h9⟩ hi⟩
      rw [h8, decide_eq_false hi]
    · rw [h8] at h0; cases h0
section
variable {w0 u : World} {B q n i : Nat} {R : Dk → Prop}
abbrev Q0 (d : Dk) : Prop := Oa 1 d ∧ d.on = true
theorem p0 (h : On1 w0 B 0 (fun d => d = dNew 4 100) u) (fr : Nat × Nat) :
    Calls Try.prog 6 #[.pointer (some ⟨B, 0, none⟩), .string aN, .slice (some ⟨u.heap.size, 0, none⟩) 1 1] (u.alloc (.cells #[.int .u8 49] 5 fr)) fun e w' => e = .returned (.int .i64 0) ∧ On1 w0 B 3 Q0 w' := by
  refine (h.writeLit aN [49] (by decide) fr (by decide)).mono ?_
  rintro e w' ⟨E, rfl, hT⟩
  obtain ⟨rfl, hT2⟩ := hT.conv (P := E = 0) (R' := Q0) (Nat.le_refl 3) fun d' ⟨d, F, hd, hp⟩ => by
    subst hd
    exact pw0 hp
  exact ⟨rfl, hT2⟩
theorem p1 (h : On1 w0 B 3 Q0 u) :
    Calls Try.prog 7 #[.pointer (some ⟨B, 0, none⟩), .int .i64 (n : Int)] u fun e w' => e = .returned (.int .i64 0) ∧ On1 w0 B 3 (Pw n 0) w' := by
  refine (h.fuse n).mono ?_
  rintro e w' ⟨E, rfl, hT⟩
  obtain ⟨rfl, hT2⟩ := hT.conv (P := E = 0) (R' := Pw n 0) (Nat.le_refl 3) fun d' ⟨d, hd, hp⟩ => pw1 hd.1 hd.2 hp
  exact ⟨rfl, hT2⟩
theorem pM (hq : q < 1000) (h : On1 w0 B q (Pw n i) u) :
    Calls Try.prog 8 #[.pointer (some ⟨B, 0, none⟩), .string noneN] u fun e w' => (∃ E, e = .returned (.int .i64 E)) ∧ On1 w0 B (q + 1) (Pw n i) w' := by
  refine (h.remove noneN (by omega)).mono ?_
  rintro e w' ⟨E, rfl, hT⟩
  exact ⟨⟨E, rfl⟩, hT.imp (Nat.le_refl _) fun d' ⟨d, hd, hp⟩ => pwM hd hp⟩
theorem pA (hn : n ≤ 31) (hq : q < 1000) (h : On1 w0 B q (Pw n i) u) (fr : Nat × Nat) :
    Calls Try.prog 9 #[.pointer (some ⟨B, 0, none⟩), .string aN, .slice (some ⟨u.heap.size, 0, none⟩) 1 1] (u.alloc (.cells #[.int .u8 50] 5 fr)) fun e w' => e = .returned (.int .i64 (E n i)) ∧ On1 w0 B (q + 3) (Pw n (i + 1)) w' := by
  refine (h.appendLit aN [50] (by decide) fr (by simp; omega)).mono ?_
  rintro e w' ⟨e0, rfl, hT⟩
  obtain ⟨he, hT2⟩ := hT.conv (P := e0 = E n i) (R' := Pw n (i + 1)) (Nat.le_refl (q + 3)) fun d' ⟨d, F, hd, hp⟩ => pwA hn hd hp
  rw [he]
  exact ⟨rfl, hT2⟩
theorem pF (hn : n ≤ 31) (hq : q < 1000) (h : On1 w0 B q (Pw n i) u) :
    Calls Try.prog 10 #[.pointer (some ⟨B, 0, none⟩), .string aN] u fun e w' => e = .returned (.int .i64 (E n i)) ∧ On1 w0 B (q + 3) (Pw n (i + 1)) w' := by
  refine (h.flush aN (by omega)).mono ?_
  rintro e w' ⟨e0, rfl, hT⟩
  obtain ⟨he, hT2⟩ := hT.conv (P := e0 = E n i) (R' := Pw n (i + 1)) (show q ≤ q + 3 by omega) fun d' ⟨d, hd, hp⟩ => pwF hn hd hp
  rw [he]
  exact ⟨rfl, hT2⟩
theorem pN' (hn : n ≤ 31) (hq : q < 1000) (h : On1 w0 B q (Pw n i) u) :
    Calls Try.prog 11 #[.pointer (some ⟨B, 0, none⟩), .string aN, .string aN] u fun e w' => e = .returned (.int .i64 (E n i)) ∧ On1 w0 B (q + 3) (Pw n (i + 1)) w' := by
  refine (h.rename aN aN (by omega)).mono ?_
  rintro e w' ⟨e0, rfl, hT⟩
  obtain ⟨he, hT2⟩ := hT.conv (P := e0 = E n i) (R' := Pw n (i + 1)) (show q + 1 ≤ q + 3 by omega) fun d' ⟨d, hd, hp⟩ => pwN hn hd hp
  rw [he]
  exact ⟨rfl, hT2⟩
theorem pS (hn : n ≤ 31) (hq : q < 1000) (h : On1 w0 B q (Pw n i) u) :
    Calls Try.prog 12 #[.pointer (some ⟨B, 0, none⟩)] u fun e w' => e = .returned (.int .i64 (E n i)) ∧ On1 w0 B (q + 3) (Pw n (i + 1)) w' := by
  refine (h.sync (by omega)).mono ?_
  rintro e w' ⟨e0, rfl, hT⟩
  obtain ⟨he, hT2⟩ := hT.conv (P := e0 = E n i) (R' := Pw n (i + 1)) (show q ≤ q + 3 by omega) fun d' ⟨d, F, hd, hN, _, _, hp⟩ => pwS hn hd hN hp
  rw [he]
  exact ⟨rfl, hT2⟩
theorem pO (h : On1 w0 B q (Pw n i) u) :
    Calls Try.prog 13 #[.pointer (some ⟨B, 0, none⟩)] u fun e w' => e = .returned (.bool (decide (i < n))) ∧ w' = u := by
  obtain ⟨d, hd, hc⟩ := h.on
  rw [hd.2.2.1] at hc
  exact hc
theorem pD (hq : q < 1000) (hi : ¬ i < n) (h : On1 w0 B q (Pw n i) u) :
    Calls Try.prog 14 #[.pointer (some ⟨B, 0, none⟩), .string aN] u fun e w' => e = .returned (.tuple #[.slice none 0 0, .int .i64 63]) ∧ On1 w0 B q (Pw n i) w' := by
  obtain ⟨d, hd, hc⟩ := h.read aN (by omega)
  rw [pw_fnd hd, show E n i = 63 from if_neg hi] at hc
  refine hc.mono ?_
  rintro e w' ⟨k, v, l, rfl, hr, -, h4⟩
  rcases h4 with ⟨-, -, rfl⟩ | ⟨h4, -⟩
  · exact ⟨rfl, h.kept k⟩
  · cases h4
theorem pZ (hi : ¬ i < n) (h : On1 w0 B q (Pw n i) u) :
    Calls Try.prog 7 #[.pointer (some ⟨B, 0, none⟩), .int .i64 3] u fun e w' => e = .returned (.int .i64 63) ∧ On1 w0 B q Tt w' := by
  refine (h.fuse 3).mono ?_
  rintro e w' ⟨e0, rfl, hT⟩
  obtain ⟨rfl, hT2⟩ := hT.conv (P := e0 = 63) (R' := Tt) (Nat.le_refl q) fun d' ⟨d, hd, hp⟩ => by
    have hon : d.on = false := by rw [hd.2.2.1]; exact decide_eq_false hi
    rcases hp with ⟨h, -⟩ | ⟨-, -, h, -⟩ | ⟨-, h, -⟩
    · omega
    · exact ⟨h, trivial⟩
    · rw [hon] at h; cases h
  exact ⟨rfl, hT2⟩
abbrev Lit (d : Dk) : Prop := d.on = true ∧ d.fused = false
theorem ri_lit (w : World) : Ri (w.alloc (.cells #[.int .i64 1, .int .i64 1] 3)) (.slice (some ⟨w.heap.size, 0, none⟩) 2 2) [1, 1] :=
  .inr ⟨w.heap.size, 2, rfl, Nat.zero_le _, rfl, Nat.le_refl _, _, heap_alloc_new w _, by decide, by decide, rfl, rfl⟩
theorem pC (hq : q < 1000) (h : On1 w0 B q R u) :
    Calls Try.prog 15 #[.pointer (some ⟨B, 0, none⟩), .slice (some ⟨u.heap.size, 0, none⟩) 2 2] (u.alloc (.cells #[.int .i64 1, .int .i64 1] 3)) fun e w' => e = .returned (.tuple #[]) ∧ On1 w0 B q Lit w' := by
  refine (h.crash (kept_lit _ _ _ _) _ [1, 1] (ri_lit u) (fun c hc => by
    obtain rfl := (ob_some _ _ _ _).1 hc
    exact Nat.le_refl _) (by omega) (by decide)).mono ?_
  rintro e w' ⟨rfl, hT⟩
  refine ⟨rfl, hT.imp (Nat.le_refl q) fun d' ⟨d, _, cn', _, hd⟩ => ?_⟩
  rw [hd]
  exact ⟨rfl, rfl⟩
theorem lO (h : On1 w0 B q Lit u) :
    Calls Try.prog 13 #[.pointer (some ⟨B, 0, none⟩)] u fun e w' => e = .returned (.bool true) ∧ w' = u := by
  obtain ⟨d, hd, hc⟩ := h.on
  rw [hd.1] at hc
  exact hc
theorem lS (hq : q < 1000) (h : On1 w0 B q Lit u) :
    Calls Try.prog 12 #[.pointer (some ⟨B, 0, none⟩)] u fun e w' => e = .returned (.int .i64 0) ∧ Kept w0 w' := by
  refine (h.sync (by omega)).mono ?_
  rintro e w' ⟨e0, rfl, hT⟩
  obtain ⟨rfl, hT2⟩ := hT.conv (P := e0 = 0) (R' := Tt) (Nat.le_refl q) fun d' ⟨d, F, hd, hN, _, _, hp⟩ => by
    rcases hp with ⟨h, -⟩ | ⟨-, h, -⟩
    · rw [hd.1] at h; cases h
    · exact ⟨h, trivial⟩
  exact ⟨rfl, hT2.k⟩
end
theorem and31 (a : Int) : ∃ n : Nat, n ≤ 31 ∧ bits .and .i64 a 31 = n := by
  refine ⟨(BitVec.ofInt 64 a &&& BitVec.ofInt 64 31).toNat, ?_, ?_⟩
  · rw [BitVec.toNat_and]
    exact Nat.and_le_right
  · have e : bits .and .i64 a 31 = IntKind.i64.wrap ((BitVec.ofInt 64 a &&& BitVec.ofInt 64 31).toNat : Int) := rfl
    have hw : ∀ n : Int, IntKind.i64.wrap n = (n + 9223372036854775808) % 18446744073709551616 - 9223372036854775808 := fun n => by
      simp [IntKind.wrap, IntKind.bits, IntKind.signed]
      omega
    rw [e, hw]
    have h : (BitVec.ofInt 64 a &&& BitVec.ofInt 64 31).toNat ≤ 31 := by
      rw [BitVec.toNat_and]
      exact Nat.and_le_right
    omega
end Go.Proofs.Ythaiejmajhmahab
