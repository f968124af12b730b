/- The laws' alive: a file written, made fast, kept and read. -/
import Derived.Test.YthaiejmajhmahabDMB
import Derived.Lib.SlBytesConst
namespace Go.Proofs.Ythaiejmajhmahab
open Go.ChangeShapes Go.WideShapes Go.ChangeAt Go.RowKit Go.Maps
set_option linter.unusedVariables false
set_option linter.unusedSimpArgs false

abbrev aN : ByteArray := ⟨#[97]⟩
abbrev xyz : List UInt8 := [120, 121, 122]
theorem okN_a : okN aN = true := by decide
theorem full_noN {N : List (ByteArray × Nat)} (h : Full noN N) : N = [] := by
  rcases N with _ | ⟨⟨s, f⟩, r⟩
  · rfl
  · have := ((h.mem s f).1 List.mem_cons_self).1
    cases this
abbrev d0f (f : Nat) : Dk := { dNew 2 10 with cn := up (fun _ => []) f [], cf := up (fun _ => []) f [] }
abbrev x1 (f : Nat) : Wk := ⟨3, ⟨#[]⟩, aN, 0, f, []⟩
abbrev x2 (f : Nat) : Wk := ⟨1, aN, ⟨#[]⟩, 3, f, xyz⟩
theorem al1 {F : Nat → Prop} {E : Int} {d' : Dk} (h : PutR F 1 aN xyz (dNew 2 10) E d') : E = 0 ∧ ∃ f, d' = doD (x2 f) (doD (x1 f) (d0f f)) := by
  have hf : fndE (dNew 2 10) aN = 60 := by
    unfold fndE
    rw [okN_a]
    rfl
  rcases h with ⟨h1, h2, -⟩ | ⟨-, N, hN, h⟩ | ⟨h1, -⟩
  · rw [h1, hf] at h2
    rcases h2 with h2 | h2 <;> cases h2
  · have hN0 := full_noN hN
    subst hN0
    rcases h with ⟨-, -, h⟩ | ⟨h1, -, f, -, h⟩
    · exfalso
      simp [sumN, dNew] at h
    · exact ⟨h1, f, h⟩
  · rw [hf] at h1
    cases h1
theorem al2 {f : Nat} {E : Int} {d' : Dk} (h : FluR aN (doD (x2 f) (doD (x1 f) (d0f f))) E d') : E = 0 ∧ d' = burnD (setD (ofF f) (doD (x2 f) (doD (x1 f) (d0f f)))) := by
  have hn : (doD (x2 f) (doD (x1 f) (d0f f))).nN aN = some f := by simp [doD, ofN, nameN, giveN]
  have hf : fndE (doD (x2 f) (doD (x1 f) (d0f f))) aN = 0 := by
    unfold fndE
    rw [okN_a, hn]
    rfl
  obtain ⟨h1, h | ⟨-, g, hg, h⟩⟩ := h
  · rw [hf] at h1
    exact absurd h1 h.1
  · rw [hn] at hg
    cases hg
    exact ⟨h1.trans hf, h⟩
theorem al2_eq (f : Nat) : burnD (setD (ofF f) (doD (x2 f) (doD (x1 f) (d0f f)))) = ⟨true, false, 0, 2, 10, giveN noN f aN, noN, 1, 0, up (up (fun _ => []) f []) f xyz, up (up (fun _ => []) f []) f xyz, [x1 f]⟩ := by
  simp [setD, stepD, ofF, ofN, fasD, doD, burnD, nameN, ontoL, dNew]
theorem al3 {F : Nat → Prop} {f : Nat} {E : Int} {d' : Dk} (hF : F f) (h : SynR F ⟨true, false, 0, 2, 10, giveN noN f aN, noN, 1, 0, up (up (fun _ => []) f []) f xyz, up (up (fun _ => []) f []) f xyz, [x1 f]⟩ E d') :
    E = 0 ∧ d'.on = true ∧ d'.fused = false ∧ d'.nF aN = some f ∧ d'.cf f = xyz ∧ d'.W = [] := by
  have hs : setD (fun x => ofN x.kind) ⟨true, false, 0, 2, 10, giveN noN f aN, noN, 1, 0, up (up (fun _ => []) f []) f xyz, up (up (fun _ => []) f []) f xyz, [x1 f]⟩ = ⟨true, false, 0, 2, 10, giveN noN f aN, giveN noN f aN, 1, 1, up (up (fun _ => []) f []) f xyz, up (up (fun _ => []) f []) f xyz, []⟩ := by
    simp [setD, stepD, ofN, fasD, nameN]
  rcases h with ⟨h, -⟩ | ⟨-, h1, d1, hr, h2⟩
  · cases h
  · rw [hs] at hr
    have hb : burnD d1 = d1 := by
      rw [hr.eq]
      rfl
    rw [h2, hb]
    have hW : d1.W = [] := List.length_eq_zero_iff.1 hr.len
    refine ⟨h1, ?_, ?_, ?_, ?_, hW⟩
    · rw [hr.eq]
    · rw [hr.eq]
    · rw [hr.eq]
      simp [giveN]
    · rw [hr.cf f hF]
      exact up_same _ _ _
theorem al4 {f : Nat} {d d' : Dk} (hN : d.nF aN = some f) (hc : d.cf f = xyz) (hW : d.W = []) (h : CraR [] d d') : fndE d' aN = 0 ∧ d'.nN aN = some f ∧ d'.cn f = xyz ∧ d'.W = [] ∧ d'.on = true := by
  obtain ⟨cn', h1, h2⟩ := h
  rw [hW] at h1 h2
  have e : crN ([] : List Wk) [] ([] : List Wk).length d = d := rfl
  rw [e] at h1 h2
  have hn : d'.nN aN = some f := by rw [h2]; exact hN
  refine ⟨?_, hn, ?_, ?_, ?_⟩
  · unfold fndE
    rw [okN_a, hn, h2]
    rfl
  · rw [h2]
    exact (h1 aN f hN).trans hc
  · rw [h2]
  · rw [h2]
theorem u8_u : Try.prog.underlying 5 = some (.int .u8) := by kernel_rfl
/-- A literal's row, with its mark. -/
theorem rd_lit (w : World) (l : List UInt8) (h0 : l ≠ []) (fr : Nat × Nat) : Rd (w.alloc (.cells (bv l).toArray 5 fr)) (.slice (some ⟨w.heap.size, 0, none⟩) l.length l.length) l :=
  .inr ⟨w.heap.size, l.length, rfl, by simp, fun j u hj => by
    rw [World.cell?_alloc_mark]
    simpa using hj⟩
theorem frozen?_other {w w' : World} {a : Addr} (h : w'.heap[a.block]? = w.heap[a.block]?) : w'.frozen? a = w.frozen? a := by
  unfold World.frozen?
  rw [h]
theorem kept_lit (w : World) (C : Array Value) (t : TypeId) (fr : Nat × Nat) : Kept w (w.alloc (.cells C t fr)) :=
  ⟨(Below.refl _ w).alloc (Nat.le_refl _) _, fun a ha => frozen?_other (Below.heap_alloc _ _ a.block ha)⟩
section
variable {w0 u : World} {B q : Nat} {R : Dk → Prop}
theorem On1.conv {P : Prop} {q' : Nat} {R' : Dk → Prop} (h : On1 w0 B q R u) (hq : q ≤ q') (hR : ∀ d, R d → P ∧ R' d) : P ∧ On1 w0 B q' R' u :=
  ⟨by
    obtain ⟨O, a, d, h1, h2, h3, h4, h5⟩ := h
    exact (hR d h5).1, h.imp hq fun d hd => (hR d hd).2⟩
theorem On1.writeLit (h : On1 w0 B q R u) (s : ByteArray) (b : List UInt8) (hb : b ≠ []) (fr : Nat × Nat) (hq8 : q + b.length + 2 < 99999999) :
    Calls Try.prog 6 #[.pointer (some ⟨B, 0, none⟩), .string s, .slice (some ⟨u.heap.size, 0, none⟩) b.length b.length] (u.alloc (.cells (bv b).toArray 5 fr)) fun e w' => ∃ E, e = .returned (.int .i64 E) ∧ On1 w0 B (q + 2 + b.length) (fun d' => ∃ d F, R d ∧ PutR F 1 s b d E d') w' :=
  h.write (kept_lit _ _ _ _) s _ b hq8 (rd_lit u b hb fr) fun c hc => by
    obtain rfl := (ob_some _ _ _ _).1 hc
    exact Nat.le_refl _
theorem On1.appendLit (h : On1 w0 B q R u) (s : ByteArray) (b : List UInt8) (hb : b ≠ []) (fr : Nat × Nat) (hq8 : q + b.length + 2 < 99999999) :
    Calls Try.prog 9 #[.pointer (some ⟨B, 0, none⟩), .string s, .slice (some ⟨u.heap.size, 0, none⟩) b.length b.length] (u.alloc (.cells (bv b).toArray 5 fr)) fun e w' => ∃ E, e = .returned (.int .i64 E) ∧ On1 w0 B (q + 2 + b.length) (fun d' => ∃ d F, R d ∧ PutR F 2 s b d E d') w' :=
  h.append (kept_lit _ _ _ _) s _ b hq8 (rd_lit u b hb fr) fun c hc => by
    obtain rfl := (ob_some _ _ _ _).1 hc
    exact Nat.le_refl _
end
abbrev D2 (f : Nat) : Dk := ⟨true, false, 0, 2, 10, giveN noN f aN, noN, 1, 0, up (up (fun _ => []) f []) f xyz, up (up (fun _ => []) f []) f xyz, [x1 f]⟩
section
variable {w0 u : World} {B : Nat}
theorem alW (h : On1 w0 B 0 (fun d => d = dNew 2 10) u) (fr : Nat × Nat) :
    Calls Try.prog 6 #[.pointer (some ⟨B, 0, none⟩), .string aN, .slice (some ⟨u.heap.size, 0, none⟩) 3 3] (u.alloc (.cells #[.int .u8 120, .int .u8 121, .int .u8 122] 5 fr)) fun e w' => e = .returned (.int .i64 0) ∧ On1 w0 B 5 (fun d => ∃ f, d = doD (x2 f) (doD (x1 f) (d0f f))) w' := by
  refine (h.writeLit aN xyz (by decide) fr (by decide)).mono ?_
  rintro e w' ⟨E, rfl, hT⟩
  obtain ⟨rfl, hT2⟩ := hT.conv (P := E = 0) (R' := fun d => ∃ f, d = doD (x2 f) (doD (x1 f) (d0f f))) (Nat.le_refl 5) fun d' ⟨d, F, hd, hp⟩ => by
    subst hd
    exact al1 hp
  exact ⟨rfl, hT2⟩
theorem alF (h : On1 w0 B 5 (fun d => ∃ f, d = doD (x2 f) (doD (x1 f) (d0f f))) u) :
    Calls Try.prog 10 #[.pointer (some ⟨B, 0, none⟩), .string aN] u fun e w' => e = .returned (.int .i64 0) ∧ On1 w0 B 5 (fun d => ∃ f, d = D2 f) w' := by
  refine (h.flush aN (by decide)).mono ?_
  rintro e w' ⟨E, rfl, hT⟩
  obtain ⟨rfl, hT2⟩ := hT.conv (P := E = 0) (R' := fun d => ∃ f, d = D2 f) (Nat.le_refl 5) fun d' ⟨d, ⟨f, hd⟩, hp⟩ => by
    subst hd
    obtain ⟨h1, h2⟩ := al2 hp
    exact ⟨h1, f, h2.trans (al2_eq f)⟩
  exact ⟨rfl, hT2⟩
theorem alS (h : On1 w0 B 5 (fun d => ∃ f, d = D2 f) u) :
    Calls Try.prog 12 #[.pointer (some ⟨B, 0, none⟩)] u fun e w' => e = .returned (.int .i64 0) ∧ On1 w0 B 5 (fun d => ∃ f, d.nF aN = some f ∧ d.cf f = xyz ∧ d.W = []) w' := by
  refine (h.sync (by decide)).mono ?_
  rintro e w' ⟨E, rfl, hT⟩
  obtain ⟨rfl, hT2⟩ := hT.conv (P := E = 0) (R' := fun d => ∃ f, d.nF aN = some f ∧ d.cf f = xyz ∧ d.W = []) (Nat.le_refl 5) fun d' ⟨d, F, ⟨f, hd⟩, hN, _, _, hp⟩ => by
    subst hd
    obtain ⟨h1, -, -, h2, h3, h4⟩ := al3 (hN aN f (by simp [giveN])) hp
    exact ⟨h1, f, h2, h3, h4⟩
  exact ⟨rfl, hT2⟩
theorem alC (h : On1 w0 B 5 (fun d => ∃ f, d.nF aN = some f ∧ d.cf f = xyz ∧ d.W = []) u) :
    Calls Try.prog 15 #[.pointer (some ⟨B, 0, none⟩), .slice none 0 0] u fun e w' => e = .returned (.tuple #[]) ∧ On1 w0 B 5 (fun d => ∃ f, fndE d aN = 0 ∧ d.nN aN = some f ∧ d.cn f = xyz ∧ d.W = []) w' := by
  refine (h.crash (Kept.refl u) (.slice none 0 0) [] (Or.inl ⟨rfl, rfl, rfl⟩) (fun c hc => absurd hc (ob_nil c)) (by decide) (by decide)).mono ?_
  rintro e w' ⟨rfl, hT⟩
  refine ⟨rfl, hT.imp (Nat.le_refl 5) fun d' ⟨d, ⟨f, h1, h2, h3⟩, hp⟩ => ?_⟩
  obtain ⟨h4, h5, h6, h7, -⟩ := al4 h1 h2 h3 hp
  exact ⟨f, h4, h5, h6, h7⟩
theorem alR (h : On1 w0 B 5 (fun d => ∃ f, fndE d aN = 0 ∧ d.nN aN = some f ∧ d.cn f = xyz ∧ d.W = []) u) :
    Calls Try.prog 14 #[.pointer (some ⟨B, 0, none⟩), .string aN] u fun e w' => ∃ g c, e = .returned (.tuple #[.slice (some ⟨g, 0, none⟩) 3 c, .int .i64 0]) ∧ (∀ t1 t2, t1 = 27 → t2 = 9 → (convert t1 t2 (.slice (some ⟨g, 0, none⟩) 3 c)).run Try.prog w' = .ok (.string ⟨#[120, 121, 122]⟩) w') ∧ On1 w0 B 5 (fun d => d.W = []) w' := by
  obtain ⟨d, ⟨f, h1, h2, h3, -⟩, hc⟩ := h.read aN (by decide)
  rw [h1] at hc
  refine hc.mono ?_
  rintro e w' ⟨k, v, l, rfl, hr, -, h4⟩
  rcases h4 with ⟨h4, -⟩ | ⟨-, g, hg, hl⟩
  · exact absurd rfl h4
  · rw [h2] at hg
    cases hg
    rw [h3] at hl
    subst hl
    rcases hr with ⟨h5, -⟩ | ⟨g, c, rfl, -, -, -, hO⟩
    · cases h5
    · refine ⟨g, c, rfl, ?_, (h.kept k).imp (Nat.le_refl 5) fun d ⟨_, _, _, _, h⟩ => h⟩
      rintro _ _ rfl rfl
      exact run_convert_bytes_back w' _ _ 5 ⟨g, 0, none⟩ c xyz bsl_u u8_u str_u fun j hj => by
        rw [Addr.add_lit, Nat.zero_add]
        exact hO.cell j _ (by
          show (List.map _ xyz)[j]? = _
          rw [List.getElem?_map, List.getElem?_eq_getElem hj]
          rfl)
theorem alP (h : On1 w0 B 5 (fun d => d.W = []) u) :
    Calls Try.prog 31 #[.pointer (some ⟨B, 0, none⟩)] u fun e w' => ∃ g, e = .returned (.slice (some ⟨g, 0, none⟩) 0 0) ∧ Kept w0 w' := by
  obtain ⟨d, hd, hc⟩ := h.pending (by decide)
  rw [hd] at hc
  refine hc.mono ?_
  rintro e w' ⟨v, rfl, k, g, V, rfl, -⟩
  exact ⟨g, rfl, h.k.trans k⟩
end
set_option maxHeartbeats 4000000 in
set_option maxRecDepth 100000 in
theorem alive_any (w : World) : Calls Try.prog 16 #[] w fun e w' => e = .returned (.bool true) ∧ Kept w w' := by
  have HNEW := hid (on1_new 2 10 w (by decide) (by decide) (by decide) (by decide))
  have kc := fun (w : World) (C : Array Value) (n c : Nat) => Lib.run_convert_bytes_const (P := Try.prog) w 27 5 C n c bsl_u u8_u
  go_enter Try.func16, Try.ntmps16
  go_wp2_with (first
    | (go_at_call 5; refine HNEW.out.mono ?_; rintro e u1 ⟨B, rfl, h1⟩; have H1 := hid h1; clear h1)
    | (go_at_call 6; refine (alW H1.out _).mono ?_; rintro e u2 ⟨rfl, h2⟩; have H2 := hid h2; clear h2)
    | (go_at_call 10; refine (alF H2.out).mono ?_; rintro e u3 ⟨rfl, h3⟩; have H3 := hid h3; clear h3)
    | (go_at_call 12; refine (alS H3.out).mono ?_; rintro e u4 ⟨rfl, h4⟩; have H4 := hid h4; clear h4)
    | (go_at_call 15; refine (alC H4.out).mono ?_; rintro e u5 ⟨rfl, h5⟩; have H5 := hid h5; clear h5)
    | (go_at_call 14; refine (alR H5.out).mono ?_; rintro e u6 ⟨g, c, rfl, hv, h6⟩; have hv6 := hv _ _ rfl rfl; clear hv; have H6 := hid h6; clear h6)
    | (go_at_call 31; refine (alP H6.out).mono ?_; rintro e u7 ⟨g2, rfl, h7⟩; have H7 := hid h7; clear h7))
  go_ret
  exact ⟨rfl, H7.out⟩
end Go.Proofs.Ythaiejmajhmahab
