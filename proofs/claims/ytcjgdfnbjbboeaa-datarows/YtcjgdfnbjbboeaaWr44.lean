/- The laws' book where calls tell Below alone. -/
import Derived.Test.YtcjgdfnbjbboeaaWr19
import Derived.Test.YtcjgdfnbjbboeaaWr43
namespace Go.Proofs.Ytcjgdfnbjbboeaa
open Go.ChangeShapes Go.WideShapes Go.ChangeAt Go.RowKit
set_option linter.unusedVariables false
set_option linter.unusedSimpArgs false

theorem Ew.below {u u' : World} {a : Option Addr} {c : Nat} {L : List Int} (h : Ew u a c L) (k : Below u.heap.size u u') : Ew u' a c L := by
  rcases h with h | ⟨b, e, ho⟩
  · exact .inl h
  · exact .inr ⟨b, e, ho.below k⟩
theorem OwnV.below {w w' : World} {g cap : Nat} {e : TypeId} {V : List Value} (h : OwnV w g cap e V) (k : Below w.heap.size w w') : OwnV w' g cap e V := by
  have hl := h.lt
  obtain ⟨cur, hg, r⟩ := h
  exact ⟨cur, (k.block g hl).trans hg, r⟩
theorem RowI.below {u u' : World} {B n : Nat} {a : Nat → Option Addr} {c m : Nat → Nat} {v : Value} (h : RowI u B n a c m v) (k : Below u.heap.size u u') : RowI u' B n a c m v := by
  rcases h with h | ⟨g, cap, h1, h2, h3⟩
  · exact .inl h
  · exact .inr ⟨g, cap, h1, h2, h3.below k⟩
theorem Bok.below {u u' : World} {B n : Nat} {a : Nat → Option Addr} {c m : Nat → Nat} {a' : Nat → Option Addr} {c' : Nat → Nat} {L : Nat → List Int} {vI vW : Value} (h : Bok u B n a c m a' c' L vI vW) (k : Below u.heap.size u u') : Bok u' B n a c m a' c' L vI vW := by
  have q : ∀ o, u'.cell? ⟨B, o, none⟩ = u.cell? ⟨B, o, none⟩ := fun o => k.cell (p := ⟨B, o, none⟩) h.lt
  exact ⟨(q 0).trans h.c0, (q 1).trans h.c1, fun o => (World.frozen?_of_block (a := ⟨B, o, none⟩) (k.block B h.lt)).trans (h.fz o), ⟨(q 2).trans h.ne.c2, (q 4).trans h.ne.c4, (q 6).trans h.ne.c6, (q 8).trans h.ne.c8, (q 10).trans h.ne.c10, (q 12).trans h.ne.c12, (q 14).trans h.ne.c14⟩, h.rI.below k, h.rW.below k, h.ap0, fun j hj => (h.own j hj).below k, fun j hj => (h.own' j hj).below k, h.len, h.cn, h.cn', h.ap, h.lo, h.lo'⟩
theorem RowI.nobox {u : World} {B n : Nat} {a : Nat → Option Addr} {c m : Nat → Nat} {v : Value} (h : RowI u B n a c m v) (hn : 0 < n) {x : Nat} {r : Int} (hx : u.cell? ⟨x, 0, none⟩ = some (.int .i64 r)) : x ∉ rb v := fun hb => by
  rcases h with ⟨h1, -⟩ | ⟨g, cap, h1, h2, h3⟩
  · omega
  · rw [h1] at hb
    have e : x = g := by simpa [rb] using hb
    have := ownv_at h3 0 hn
    rw [e, this] at hx
    cases hx
theorem bok_new (w : World) (t : TypeId) : Bok (w.alloc (.cells #[.slice none 0 0, .slice none 0 0, .slice none 0 0, .slice none 0 0, .slice none 0 0, .slice none 0 0, .slice none 0 0, .slice none 0 0, .slice none 0 0, .slice none 0 0, .slice none 0 0, .slice none 0 0, .slice none 0 0, .slice none 0 0, .slice none 0 0, .slice none 0 0] t)) w.heap.size 0 (fun _ => none) (fun _ => 0) (fun _ => 0) (fun _ => none) (fun _ => 0) (fun _ => []) (.slice none 0 0) (.slice none 0 0) :=
  ⟨by simp [go_sem], by simp [go_sem], fun o => by simp [go_sem], ⟨by simp [go_sem], by simp [go_sem], by simp [go_sem], by simp [go_sem], by simp [go_sem], by simp [go_sem], by simp [go_sem]⟩, .inl ⟨rfl, rfl⟩, .inl ⟨rfl, rfl⟩, fun b hb => by simp [rb] at hb, fun j hj => by omega, fun j hj => by omega, fun j hj => by omega, fun j hj => by omega, fun j hj => by omega, fun j k hj => by omega, fun j hj => by omega, fun j hj => by omega⟩
/- the book with n lists, all below a block -/
def Bks (u : World) (B n H : Nat) : Prop := ∃ a c m a' c' L vI vW, Bok u B n a c m a' c' L vI vW ∧ ∀ j, j < n → m j ≤ 4096 ∧ ∀ b ∈ eb (a j), b < H
theorem Bks.kept {u u' : World} {B n H : Nat} (h : Bks u B n H) (k : Kept u u') : Bks u' B n H := by
  obtain ⟨a, c, m, a', c', L, vI, vW, h1, h2⟩ := h
  exact ⟨a, c, m, a', c', L, vI, vW, h1.kept k, h2⟩
theorem Bks.below {u u' : World} {B n H : Nat} (h : Bks u B n H) (k : Below u.heap.size u u') : Bks u' B n H := by
  obtain ⟨a, c, m, a', c', L, vI, vW, h1, h2⟩ := h
  exact ⟨a, c, m, a', c', L, vI, vW, h1.below k, h2⟩
theorem Bks.lt {u : World} {B n H : Nat} (h : Bks u B n H) : B < u.heap.size := by
  obtain ⟨a, c, m, a', c', L, vI, vW, h1, h2⟩ := h
  exact h1.lt
theorem Bks.mono {u : World} {B n H H' : Nat} (h : Bks u B n H) (hh : H ≤ H') : Bks u B n H' := by
  obtain ⟨a, c, m, a', c', L, vI, vW, h1, h2⟩ := h
  exact ⟨a, c, m, a', c', L, vI, vW, h1, fun j hj => ⟨(h2 j hj).1, fun b hb => Nat.lt_of_lt_of_le ((h2 j hj).2 b hb) hh⟩⟩
set_option maxHeartbeats 2000000 in
set_option maxRecDepth 100000 in
theorem bookMatrix (B n H H' : Nat) (hn : n < 400) (u0 w : World) (hk : Below u0.heap.size u0 w) (h0 : Bks u0 B n H) (hBH : B < H) (hHH : H ≤ H') (r c d : Int) (al : Option Addr) (cl : Nat) (Ll : List Int) (hl : Ll.length ≤ 4096) (hE : Ew w al cl Ll) (hc : al = none → cl = 0) (hlo : ∀ b ∈ eb al, H ≤ b ∧ b < H') :
    Calls Try.prog 10 #[.pointer (some ⟨B, 0, none⟩), .agg #[.int .i64 r, .int .i64 c, .int .i64 d, .slice al Ll.length cl]] w fun e w' => e = .returned (.tuple #[]) ∧ Bks w' B (n + 1) H' ∧ (∀ x d M, B < x → Own w x d M → Own w' x d M) ∧ ∃ S, (∀ b ∈ S, B ≤ b ∧ b < u0.heap.size) ∧ (∀ x q, 0 < n → B < x → w.cell? ⟨x, 0, none⟩ = some (.int .i64 q) → x ∉ S) ∧ Gs S w w' := by
  obtain ⟨a, c1, m, a', c', L, vI, vW, h1, h2⟩ := h0
  obtain ⟨X, hX⟩ : ∃ X, X = w.alloc (.cells #[.int .i64 r, .int .i64 c, .int .i64 d, .slice al Ll.length cl] 24) := ⟨_, rfl⟩
  have kX : Kept w X := by rw [hX]; exact (Kept.refl w).alloc _ _
  have x3 : X.cell? ⟨w.heap.size, 3, none⟩ = some (.slice al Ll.length cl) := by rw [hX]; simp [go_sem]
  have hB : B < u0.heap.size := h1.lt
  have KI := bookInts B n hn a c1 m a' c' L vI vW X ((h1.below hk).kept kX) al cl Ll (by omega) (hE.kept kX) hc (fun j hj b hb hb2 => by
    have := (h2 j hj).2 b hb2
    have := hlo b hb
    omega) (fun b hb => by have := hlo b hb; omega)
  have HR : Hid (∀ (e : Ending) (w' : World), (e = .returned (.tuple #[]) ∧ (∃ a2 c2 vI' vW', Bok w' B (n + 1) (up a n al) (up c1 n cl) (up m n Ll.length) a2 c2 (up L n Ll) vI' vW') ∧ (∀ x d M, B < x → Own X x d M → Own w' x d M) ∧ Gs (B :: (rb vI ++ rb vW)) X w') → e = .returned (.tuple #[]) ∧ Bks w' B (n + 1) H' ∧ (∀ x d M, B < x → Own w x d M → Own w' x d M) ∧ ∃ S, (∀ b ∈ S, B ≤ b ∧ b < u0.heap.size) ∧ (∀ x q, 0 < n → B < x → w.cell? ⟨x, 0, none⟩ = some (.int .i64 q) → x ∉ S) ∧ Gs S w w') := fun e w' q => by
    obtain ⟨rfl, ⟨a2, c2, vI', vW', q1⟩, q2, q3⟩ := q
    refine ⟨rfl, ⟨_, _, _, _, _, _, _, _, q1, fun j hj => ?_⟩, fun x d M hx ho => q2 x d M hx (ho.kept kX), B :: (rb vI ++ rb vW), fun b hb => ?_, fun x q hn hx hc hm => ?_, (kX.gs _).trans q3⟩
    · by_cases e : j = n
      · subst e; rw [up_eq, up_eq]; exact ⟨hl, fun b hb => (hlo b hb).2⟩
      · rw [up_lt _ _ _ (by omega), up_lt _ _ _ (by omega)]; exact ⟨(h2 j (by omega)).1, fun b hb => Nat.lt_of_lt_of_le ((h2 j (by omega)).2 b hb) hHH⟩
    · rcases List.mem_cons.1 hb with e | e
      · omega
      · rcases List.mem_append.1 e with e | e
        · have := h1.rI.lt b e; omega
        · have := h1.rW.lt b e; omega
    · rcases List.mem_cons.1 hm with e | e
      · omega
      · rcases List.mem_append.1 e with e | e
        · exact (h1.rI.below hk).nobox hn hc e
        · exact (h1.rW.below hk).nobox hn hc e
  have HKI := (show Hid (Calls Try.prog 24 #[.pointer (some ⟨B, 0, none⟩), .slice al Ll.length cl] X fun e w' => e = .returned (.tuple #[]) ∧ (∃ a2 c2 vI' vW', Bok w' B (n + 1) (up a n al) (up c1 n cl) (up m n Ll.length) a2 c2 (up L n Ll) vI' vW') ∧ (∀ x d M, B < x → Own X x d M → Own w' x d M) ∧ Gs (B :: (rb vI ++ rb vW)) X w') from KI)
  obtain ⟨B2, hB2⟩ : ∃ B2, B2 = w.heap.size := ⟨_, rfl⟩
  rw [← hB2] at x3
  have HX3 := (show Hid (X.cell? ⟨B2, 3, none⟩ = some (.slice al Ll.length cl)) from x3)
  clear KI h1 h2 hE hc hlo hk x3 kX
  go_enter Try.func10, Try.ntmps10
  go_upto_region 1 with fail
  rw [← hX, ← hB2]
  clear hX hB2
  have x3 := HX3.out
  go_wp2_with fail
  refine HKI.out.mono ?_
  intro e w' q
  obtain ⟨rfl, q2⟩ := HR.out e w' q
  clear q HR HKI
  go_wp2_with fail
  exact bodyPost_end (v := .tuple #[]) (by simp [results, Try.results10, go_sem]) rfl ⟨rfl, q2⟩
end Go.Proofs.Ytcjgdfnbjbboeaa
