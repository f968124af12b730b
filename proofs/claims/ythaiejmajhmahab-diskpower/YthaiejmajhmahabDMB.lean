/- Package disk: a disk of the law's own: its calls, one behind the other. -/
import Derived.Test.YthaiejmajhmahabDMA
namespace Go.Proofs.Ythaiejmajhmahab
open Go.ChangeShapes Go.WideShapes Go.ChangeAt Go.RowKit Go.Maps
set_option linter.unusedVariables false
set_option linter.unusedSimpArgs false

/-- A disk that is younger than the world w0, and of which R holds. -/
def On1 (w0 : World) (B q : Nat) (R : Dk → Prop) (w : World) : Prop :=
  ∃ O a d, Kept w0 w ∧ (∀ b, O b → w0.heap.size ≤ b) ∧ DSt w O B a d ∧ Bd q d ∧ R d
theorem On1.kept {w0 w u : World} {B q : Nat} {R : Dk → Prop} (h : On1 w0 B q R w) (k : Kept w u) : On1 w0 B q R u := by
  obtain ⟨O, a, d, h1, h2, h3, h4⟩ := h
  exact ⟨O, a, d, h1.trans k, h2, h3.kept k, h4⟩
theorem On1.k {w0 w : World} {B q : Nat} {R : Dk → Prop} (h : On1 w0 B q R w) : Kept w0 w := by
  obtain ⟨O, a, d, h1, -⟩ := h
  exact h1
theorem On1.imp {w0 w : World} {B q q' : Nat} {R R' : Dk → Prop} (h : On1 w0 B q R w) (hq : q ≤ q') (hR : ∀ d, R d → R' d) : On1 w0 B q' R' w := by
  obtain ⟨O, a, d, h1, h2, h3, h4, h5⟩ := h
  exact ⟨O, a, d, h1, h2, h3, h4.mono hq, hR d h5⟩
theorem On1.turn {w0 w w' : World} {B q : Nat} {O : Nat → Prop} {a : Da} {R : Dk → Prop} (k : Kept w0 w) (ho : ∀ b, O b → w0.heap.size ≤ b) (h : Turn w O B a q R w') : On1 w0 B q R w' := by
  obtain ⟨O', a', d', h1, h2, h3, h4, h5⟩ := h
  have k' : Kept w0 w' := kept_of_kx k h1.kx ho
  exact ⟨O', a', d', k', fun b hb => (h1.new b hb).elim (ho b) fun hw => Nat.le_trans k.below.size hw, h2, h3, h5⟩
section
variable {w0 w u : World} {B q : Nat} {R : Dk → Prop}
theorem On1.write (h : On1 w0 B q R w) (k : Kept w u) (s : ByteArray) (v : Value) (b : List UInt8) (hq8 : q + b.length + 2 < 99999999) (hb : Rd u v b) (ho : ∀ c, ob v c → w.heap.size ≤ c) :
    Calls Try.prog 6 #[.pointer (some ⟨B, 0, none⟩), .string s, v] u fun e w' => ∃ E, e = .returned (.int .i64 E) ∧ On1 w0 B (q + 2 + b.length) (fun d' => ∃ d F, R d ∧ PutR F 1 s b d E d') w' := by
  obtain ⟨O, a, d, h1, h2, h3, h4, h5⟩ := h
  refine (write_any s v b O B a d u (h3.kept k) q h4 hq8 hb fun c hc hO => by have := h3.olt c hO; have := ho c hc; omega).mono ?_
  rintro e w' ⟨E, rfl, hT⟩
  refine ⟨E, rfl, (On1.turn (h1.trans k) h2 hT).imp (Nat.le_refl _) fun d' hd => ⟨d, _, h5, hd⟩⟩
theorem On1.append (h : On1 w0 B q R w) (k : Kept w u) (s : ByteArray) (v : Value) (b : List UInt8) (hq8 : q + b.length + 2 < 99999999) (hb : Rd u v b) (ho : ∀ c, ob v c → w.heap.size ≤ c) :
    Calls Try.prog 9 #[.pointer (some ⟨B, 0, none⟩), .string s, v] u fun e w' => ∃ E, e = .returned (.int .i64 E) ∧ On1 w0 B (q + 2 + b.length) (fun d' => ∃ d F, R d ∧ PutR F 2 s b d E d') w' := by
  obtain ⟨O, a, d, h1, h2, h3, h4, h5⟩ := h
  refine (append_any s v b O B a d u (h3.kept k) q h4 hq8 hb fun c hc hO => by have := h3.olt c hO; have := ho c hc; omega).mono ?_
  rintro e w' ⟨E, rfl, hT⟩
  refine ⟨E, rfl, (On1.turn (h1.trans k) h2 hT).imp (Nat.le_refl _) fun d' hd => ⟨d, _, h5, hd⟩⟩
theorem On1.flush (h : On1 w0 B q R u) (s : ByteArray) (hq8 : q < 99999999) :
    Calls Try.prog 10 #[.pointer (some ⟨B, 0, none⟩), .string s] u fun e w' => ∃ E, e = .returned (.int .i64 E) ∧ On1 w0 B q (fun d' => ∃ d, R d ∧ FluR s d E d') w' := by
  obtain ⟨O, a, d, h1, h2, h3, h4, h5⟩ := h
  refine (flush_any s O B a d u h3 q h4 hq8).mono ?_
  rintro e w' ⟨E, rfl, hT⟩
  exact ⟨E, rfl, (On1.turn h1 h2 hT).imp (Nat.le_refl _) fun d' hd => ⟨d, h5, hd⟩⟩
theorem On1.sync (h : On1 w0 B q R u) (hq8 : q < 99999999) :
    Calls Try.prog 12 #[.pointer (some ⟨B, 0, none⟩)] u fun e w' => ∃ E, e = .returned (.int .i64 E) ∧ On1 w0 B q (fun d' => ∃ d F, R d ∧ (∀ s f, d.nN s = some f → F f) ∧ (∀ s f, d.nF s = some f → F f) ∧ (∀ x ∈ d.W, F x.file) ∧ SynR F d E d') w' := by
  obtain ⟨O, a, d, h1, h2, h3, h4, h5⟩ := h
  refine (sync_any O B a d u h3 q h4 hq8).mono ?_
  rintro e w' ⟨E, rfl, hT⟩
  refine ⟨E, rfl, (On1.turn h1 h2 hT).imp (Nat.le_refl _) fun d' hd => ⟨d, _, h5, fun s f hs => (h3.inN s f hs).1, fun s f hs => (h3.inF s f hs).1, fun x hx => ?_, hd⟩⟩
  obtain ⟨j, hj, e⟩ := List.getElem_of_mem hx
  exact (h3.wks.ok j x (a.vb[j]'(by rw [h3.wks.len]; exact hj)) (by rw [List.getElem?_eq_getElem hj, e]) (List.getElem?_eq_getElem _)).fs
theorem On1.remove (h : On1 w0 B q R u) (s : ByteArray) (hq8 : q + 2 < 99999999) :
    Calls Try.prog 8 #[.pointer (some ⟨B, 0, none⟩), .string s] u fun e w' => ∃ E, e = .returned (.int .i64 E) ∧ On1 w0 B (q + 1) (fun d' => ∃ d, R d ∧ RemR s d E d') w' := by
  obtain ⟨O, a, d, h1, h2, h3, h4, h5⟩ := h
  refine (remove_any s O B a d u h3 q h4 hq8).mono ?_
  rintro e w' ⟨E, rfl, hT⟩
  exact ⟨E, rfl, (On1.turn h1 h2 hT).imp (Nat.le_refl _) fun d' hd => ⟨d, h5, hd⟩⟩
theorem On1.rename (h : On1 w0 B q R u) (s t : ByteArray) (hq8 : q + 2 < 99999999) :
    Calls Try.prog 11 #[.pointer (some ⟨B, 0, none⟩), .string s, .string t] u fun e w' => ∃ E, e = .returned (.int .i64 E) ∧ On1 w0 B (q + 1) (fun d' => ∃ d, R d ∧ RenR s t d E d') w' := by
  obtain ⟨O, a, d, h1, h2, h3, h4, h5⟩ := h
  refine (rename_any s t O B a d u h3 q h4 hq8).mono ?_
  rintro e w' ⟨E, rfl, hT⟩
  exact ⟨E, rfl, (On1.turn h1 h2 hT).imp (Nat.le_refl _) fun d' hd => ⟨d, h5, hd⟩⟩
theorem On1.fuse (h : On1 w0 B q R u) (n : Int) :
    Calls Try.prog 7 #[.pointer (some ⟨B, 0, none⟩), .int .i64 n] u fun e w' => ∃ E, e = .returned (.int .i64 E) ∧ On1 w0 B q (fun d' => ∃ d, R d ∧ FuseR n d E d') w' := by
  obtain ⟨O, a, d, h1, h2, h3, h4, h5⟩ := h
  refine (fuse_any n O B a d u h3 q h4).mono ?_
  rintro e w' ⟨E, rfl, hT⟩
  exact ⟨E, rfl, (On1.turn h1 h2 hT).imp (Nat.le_refl _) fun d' hd => ⟨d, h5, hd⟩⟩
theorem On1.crash (h : On1 w0 B q R w) (k : Kept w u) (v : Value) (keep : List Int) (hk : Ri u v keep) (ho : ∀ c, ob v c → w.heap.size ≤ c) (hq8 : q < 99999999) (hkl : keep.length < 99999999) :
    Calls Try.prog 15 #[.pointer (some ⟨B, 0, none⟩), v] u fun e w' => e = .returned (.tuple #[]) ∧ On1 w0 B q (fun d' => ∃ d, R d ∧ CraR keep d d') w' := by
  obtain ⟨O, a, d, h1, h2, h3, h4, h5⟩ := h
  refine (crash_any v keep O B a d u (h3.kept k) q h4 hq8 hk (fun c hc hO => by have := h3.olt c hO; have := ho c hc; omega) hkl).mono ?_
  rintro e w' ⟨rfl, hT⟩
  exact ⟨rfl, (On1.turn (h1.trans k) h2 hT).imp (Nat.le_refl _) fun d' hd => ⟨d, h5, hd⟩⟩
theorem On1.on (h : On1 w0 B q R u) : ∃ d, R d ∧ Calls Try.prog 13 #[.pointer (some ⟨B, 0, none⟩)] u fun e w' => e = .returned (.bool d.on) ∧ w' = u := by
  obtain ⟨O, a, d, h1, h2, h3, h4, h5⟩ := h
  exact ⟨d, h5, on_any O B a d u h3⟩
theorem On1.read (h : On1 w0 B q R u) (s : ByteArray) (hq8 : q < 99999999) : ∃ d, R d ∧ Calls Try.prog 14 #[.pointer (some ⟨B, 0, none⟩), .string s] u fun e w' => Kept u w' ∧ ∃ v l, e = .returned (.tuple #[v, .int .i64 (fndE d s)]) ∧ Rb w' v l ∧ (∀ b, ob v b → u.heap.size ≤ b) ∧ ((fndE d s ≠ 0 ∧ l = [] ∧ v = .slice none 0 0) ∨ (fndE d s = 0 ∧ ∃ f, d.nN s = some f ∧ l = d.cn f)) := by
  obtain ⟨O, a, d, h1, h2, h3, h4, h5⟩ := h
  exact ⟨d, h5, read_any s O B a d u h3 q h4 hq8⟩
theorem On1.pending (h : On1 w0 B q R u) (hq8 : q < 99999999) : ∃ d, R d ∧ Calls Try.prog 31 #[.pointer (some ⟨B, 0, none⟩)] u fun e w' => ∃ v, e = .returned v ∧ PenR u d.W v w' := by
  obtain ⟨O, a, d, h1, h2, h3, h4, h5⟩ := h
  exact ⟨d, h5, pending_any O B a d u h3 (by have := len_wsum d.W; have := h4.nf; omega)⟩
end
theorem on1_new (rf rb : Int) (w : World) (h1 : ¬ rf < 1) (h2 : ¬ 64 < rf) (h3 : ¬ rb < 0) (h4 : ¬ 4194304 < rb) :
    Calls Try.prog 5 #[.int .i64 rf, .int .i64 rb] w fun e w' => ∃ B, e = .returned (.tuple #[.pointer (some ⟨B, 0, none⟩), .int .i64 0]) ∧ On1 w B 0 (fun d => d = dNew rf rb) w' := by
  refine (new_ok rf rb w h1 h2 h3 h4).mono ?_
  rintro e w' ⟨B, rfl, k, a, hd⟩
  exact ⟨B, rfl, _, a, _, k, fun b hb => hb.1, hd, bd_new rf rb, rfl⟩
end Go.Proofs.Ythaiejmajhmahab
