/- The walk of TensorMoves: the first half. -/
import Derived.Test.YtcldcjchfagcoaaT57
import Derived.Test.YtcldcjchfagcoaaT21
import Derived.Test.YtcldcjchfagcoaaT18
import Derived.Test.YtcldcjchfagcoaaT6
namespace Go.Proofs.Ytcldcjchfagcoaa
open Go.ChangeShapes Go.WideShapes Go.ChangeAt Go.RowKit
set_option linter.unusedVariables false
set_option linter.unusedSimpArgs false

theorem matIn_own {u : World} {r c n : Int} {L : List Int} {g cap : Nat} (ho : Own u g cap (L ++ [-71])) : MatIn u r c n L g 0 cap := by
  have hg := ho.lt
  have h1 := ho.slTake L.length (by simp)
  rw [List.take_left' rfl] at h1
  have h2 := (ho.take L.length (by simp)).reads
  rw [List.take_left' rfl] at h2
  obtain ⟨cur, -, x, -⟩ := ho
  simp at x
  exact ⟨hg, h2, h1, by omega⟩

theorem tw_new {wr w9 : World} {a b c : Int} {s : Value} {T : List Int} {t : TypeId} {H : Nat} (hH : wr.heap.size ≤ H) (k9 : Kept wr w9) (h : MR H w9 s T) : wr.heap.size ≤ w9.heap.size ∧ M4 (w9.alloc (.cells #[.int .i64 a, .int .i64 b, .int .i64 c, s] t)) w9.heap.size (.int .i64 a) (.int .i64 b) (.int .i64 c) s ∧ MR wr.heap.size (w9.alloc (.cells #[.int .i64 a, .int .i64 b, .int .i64 c, s] t)) s T ∧ Kept wr (w9.alloc (.cells #[.int .i64 a, .int .i64 b, .int .i64 c, s] t)) :=
  ⟨k9.below.size, M4.new _ _ _ _ _ _, (h.kept ((Kept.refl _).alloc _ _)).mono hH, k9.alloc _ _⟩
theorem tw_put {wr w9 : World} {a b c : Int} {s x y z u : Value} {T : List Int} {H : Nat} (hH : wr.heap.size < H) (k9 : Kept wr w9) (hM : M4 w9 wr.heap.size x y z u) (h : MR H w9 s T) : wr.heap.size ≤ wr.heap.size ∧ M4 ((((w9.setCell ⟨wr.heap.size, 0, none⟩ (.int .i64 a)).setCell ⟨wr.heap.size, 1, none⟩ (.int .i64 b)).setCell ⟨wr.heap.size, 2, none⟩ (.int .i64 c)).setCell ⟨wr.heap.size, 3, none⟩ s) wr.heap.size (.int .i64 a) (.int .i64 b) (.int .i64 c) s ∧ MR wr.heap.size ((((w9.setCell ⟨wr.heap.size, 0, none⟩ (.int .i64 a)).setCell ⟨wr.heap.size, 1, none⟩ (.int .i64 b)).setCell ⟨wr.heap.size, 2, none⟩ (.int .i64 c)).setCell ⟨wr.heap.size, 3, none⟩ s) s T ∧ Kept wr ((((w9.setCell ⟨wr.heap.size, 0, none⟩ (.int .i64 a)).setCell ⟨wr.heap.size, 1, none⟩ (.int .i64 b)).setCell ⟨wr.heap.size, 2, none⟩ (.int .i64 c)).setCell ⟨wr.heap.size, 3, none⟩ s) :=
  ⟨Nat.le_refl _, res4 w9 _ _ _ _ _ hM _ _ _ _, ((((h.setOther (by simp; omega) _).setOther (by simp; omega) _).setOther (by simp; omega) _).setOther (by simp; omega) _).mono (Nat.le_of_lt hH), (((k9.setCell (Nat.le_refl _) _).setCell (Nat.le_refl _) _).setCell (Nat.le_refl _) _).setCell (Nat.le_refl _) _⟩
def pk5 {α : Type} (x0 x1 x2 x3 x4 : α) : Nat → α
  | 0 => x0
  | 1 => x1
  | 2 => x2
  | 3 => x3
  | _ => x4
theorem Bl.grBn {S : List Nat} {a b c : World} (h : Bl a b) (k : GrB S b c) (hS : ∀ x ∈ S, a.heap.size ≤ x) : Bl a c := ⟨⟨k.os.trans h.below.os, k.tape.trans h.below.tape, k.output.trans h.below.output, Nat.le_trans h.size k.size, fun i hi => (k.block i (Nat.lt_of_lt_of_le hi h.size) (fun hm => by have := hS i hm; omega)).trans (h.below.block i hi)⟩⟩
def blks (f : Nat → Value) : Nat → List Nat
  | 0 => []
  | k + 1 => blks f k ++ blkS (f k)
/-- What a round finds in its world: the matrix, the move, its error, the answer, its error. -/
def RndAt (wb B B13 : Nat) (ao : Option Addr) (l cp : Nat) (r c n : Int) (V : World) (k : Nat) (A : An) (s : Value) (S : List Nat) : Prop := ∃ (vr vc vn : Int) (va : Option Addr) (vl vk : Nat) (fe : Int) (sa : Option Addr) (sl sk : Nat) (H : Nat), s = .slice sa sl sk ∧ A.T.length ≤ 100000 ∧ ∀ u, GrB S V u →
  M4 u wb (.int .i64 r) (.int .i64 c) (.int .i64 n) (.slice ao l cp) ∧
  (u.cell? ⟨B13, k * 4, none⟩ = some (.int .i64 vr) ∧ u.cell? ⟨B13, k * 4 + 1, none⟩ = some (.int .i64 vc) ∧ u.cell? ⟨B13, k * 4 + 2, none⟩ = some (.int .i64 vn) ∧ u.cell? ⟨B13, k * 4 + 3, none⟩ = some (.slice va vl vk)) ∧
  u.cell? ⟨B13 + 1, k, none⟩ = some (.int .i64 fe) ∧
  (u.cell? ⟨B + 1, k * 4, none⟩ = some (.int .i64 A.r) ∧ u.cell? ⟨B + 1, k * 4 + 1, none⟩ = some (.int .i64 A.c) ∧ u.cell? ⟨B + 1, k * 4 + 2, none⟩ = some (.int .i64 A.n) ∧ u.cell? ⟨B + 1, k * 4 + 3, none⟩ = some (.slice sa sl sk)) ∧
  u.cell? ⟨B + 2, k, none⟩ = some (.int .i64 A.q) ∧ MR H u s A.T ∧
  ∀ u', Kept u u' → GivesK A 39 #[.agg #[.int .i64 r, .int .i64 c, .int .i64 n, .slice ao l cp], .agg #[.int .i64 vr, .int .i64 vc, .int .i64 vn, .slice va vl vk], .int .i64 fe] u'

theorem GrB.mono {S S' : List Nat} {a b : World} (h : GrB S a b) (hs : ∀ x ∈ S, x ∈ S') : GrB S' a b := ⟨h.os, h.tape, h.output, h.size, fun i hi hn => h.block i hi (fun hm => hn (hs i hm))⟩
theorem MR.grN {S : List Nat} {H : Nat} {w w' : World} {v : Value} {M : List Int} (h : MR H w v M) (kk : GrB S w w') (hS : ∀ x ∈ blkS v, x ∉ S) : MR H w' v M := by
  rcases h with h | ⟨g, cap, rfl, h2, cur, hg, r⟩
  · exact .inl h
  · exact .inr ⟨g, cap, rfl, h2, cur, (kk.block g (lt_of_block hg) (hS g (by simp [blkS]))).trans hg, r⟩
theorem zq_new {w u : World} {a b c d : Value} {t : TypeId} (k : Kept (w.alloc (.cells #[a, b, c, d] t)) u) : M4 u w.heap.size a b c d ∧ ∀ o, u.frozen? ⟨w.heap.size, o, none⟩ = false :=
  ⟨(M4.new w a b c d t).bl k.bl, fun o => (k.frozen _).trans (by simp [go_sem])⟩
theorem zq_newd {w u : World} {a b c d : Value} {t : TypeId} (k : Kept (w.drew.alloc (.cells #[a, b, c, d] t)) u) : M4 u w.heap.size a b c d ∧ ∀ o, u.frozen? ⟨w.heap.size, o, none⟩ = false := zq_new (w := w.drew) k
theorem Own.grB {S : List Nat} {w w' : World} {g cap : Nat} {L : List Int} (h : Own w g cap L) (k : GrB S w w') (hn : g ∉ S) : Own w' g cap L := by
  have hl := h.lt
  obtain ⟨cur, hg, r⟩ := h
  exact ⟨cur, (k.block g hl hn).trans hg, r⟩

set_option maxHeartbeats 8000000 in
set_option maxRecDepth 100000 in
theorem tm_try (r c n a b : Int) (A0 A1 A2 A3 A4 : An) (L : List Int) (hlen : L.length ≤ 5000) (bb off cp : Nat) (w : World) (hW : MatIn w r c n L bb off cp)
    (P0 : Hid (∀ (u : World) (g cap : Nat), MatIn u r c n L g 0 cap → GivesB A0 29 #[matV r c n L.length g 0 cap] u))
    (P1 : Hid (∀ (u : World) (g cap : Nat), MatIn u r c n L g 0 cap → GivesB A1 30 #[matV r c n L.length g 0 cap, .int .i64 a, .int .i64 b] u))
    (P2 : Hid (∀ (u : World) (g cap : Nat), MatIn u r c n L g 0 cap → GivesB A2 31 #[matV r c n L.length g 0 cap, .int .i64 a, .int .i64 b] u))
    (P3 : Hid (∀ (u : World) (g cap : Nat), MatIn u r c n L g 0 cap → GivesB A3 32 #[matV r c n L.length g 0 cap, .int .i64 a, .int .i64 b] u))
    (P4 : Hid (∀ (u : World) (g cap : Nat), MatIn u r c n L g 0 cap → GivesB A4 33 #[matV r c n L.length g 0 cap, .int .i64 a, .int .i64 b] u))
    (D0 : Hid (∀ W, MatIn W r c n L bb off cp → Calls Try.prog 35 #[.agg #[.int .i64 r, .int .i64 c, .int .i64 n]] W fun e w' => ∃ vr vc vn vs, e = .returned (.agg #[.int .i64 vr, .int .i64 vc, .int .i64 vn, vs]) ∧ Kept W w' ∧ MvOK A0 (matV r c n L.length bb off cp) bb W.heap.size w' vr vc vn vs 0))
    (D1 : Hid (∀ W, MatIn W r c n L bb off cp → Calls Try.prog 36 #[.agg #[.int .i64 r, .int .i64 c, .int .i64 n], .int .i64 a, .int .i64 b] W fun e w' => ∃ vr vc vn vs fe, e = .returned (.tuple #[.agg #[.int .i64 vr, .int .i64 vc, .int .i64 vn, vs], .int .i64 fe]) ∧ Kept W w' ∧ MvOK A1 (matV r c n L.length bb off cp) bb W.heap.size w' vr vc vn vs fe))
    (D2 : Hid (∀ W, MatIn W r c n L bb off cp → Calls Try.prog 37 #[.agg #[.int .i64 r, .int .i64 c, .int .i64 n], .int .i64 0, .int .i64 r, .int .i64 a, .int .i64 b] W fun e w' => ∃ vr vc vn vs fe, e = .returned (.tuple #[.agg #[.int .i64 vr, .int .i64 vc, .int .i64 vn, vs], .int .i64 fe]) ∧ Kept W w' ∧ MvOK A2 (matV r c n L.length bb off cp) bb W.heap.size w' vr vc vn vs fe))
    (D3 : Hid (∀ W, MatIn W r c n L bb off cp → Calls Try.prog 37 #[.agg #[.int .i64 r, .int .i64 c, .int .i64 n], .int .i64 a, .int .i64 b, .int .i64 0, .int .i64 c] W fun e w' => ∃ vr vc vn vs fe, e = .returned (.tuple #[.agg #[.int .i64 vr, .int .i64 vc, .int .i64 vn, vs], .int .i64 fe]) ∧ Kept W w' ∧ MvOK A3 (matV r c n L.length bb off cp) bb W.heap.size w' vr vc vn vs fe))
    (D4 : Hid (∀ W, MatIn W r c n L bb off cp → Calls Try.prog 38 #[.agg #[.int .i64 r, .int .i64 c, .int .i64 n], .int .i64 a, .int .i64 b] W fun e w' => ∃ vr vc vn vs fe, e = .returned (.tuple #[.agg #[.int .i64 vr, .int .i64 vc, .int .i64 vn, vs], .int .i64 fe]) ∧ Kept W w' ∧ MvOK A4 (matV r c n L.length bb off cp) bb W.heap.size w' vr vc vn vs fe))
    (hck : ckM r c n L = 0) (ht : A0.T.length ≤ 100000 ∧ A1.T.length ≤ 100000 ∧ A2.T.length ≤ 100000 ∧ A3.T.length ≤ 100000 ∧ A4.T.length ≤ 100000)
    : Calls Try.prog 7 #[matV r c n L.length bb off cp, .int .i64 a, .int .i64 b] w fun e w' => e = .returned (.bool true) ∧ Bl w w' := by
  have KA : Hid (∀ u, Calls Try.prog 9 #[] u fun e w' => e = .returned (.bool true) ∧ Bl u w') := fun u => alive_true u
  obtain ⟨X, hX⟩ : ∃ X, X = w.alloc (.cells #[.int .i64 r, .int .i64 c, .int .i64 n, .slice (some ⟨bb, off, none⟩) L.length cp] 24) := ⟨_, rfl⟩
  have hB : Bl w X := by rw [hX]; exact (Bl.refl w).alloc _
  have hM : M4 X w.heap.size (.int .i64 r) (.int .i64 c) (.int .i64 n) (.slice (some ⟨bb, off, none⟩) L.length cp) := by rw [hX]; exact M4.new _ _ _ _ _ _
  have hWX := hW.bl hB
  have KL : Hid (∀ u, Bl X u → Calls Try.prog 10 #[.agg #[.int .i64 r, .int .i64 c, .int .i64 n, .slice (some ⟨bb, off, none⟩) L.length cp]] u fun e w' => ∃ g cap, e = .returned (.agg #[.int .i64 r, .int .i64 c, .int .i64 n, .slice (some ⟨g, 0, none⟩) L.length cap]) ∧ u.heap.size ≤ g ∧ Own w' g cap (L ++ [-71]) ∧ Kept u w') := fun u k => lent_any r c n L (by omega) (some ⟨bb, off, none⟩) cp u (hWX.bl k).sl
  have g1 : ¬ 5000 < (L.length : Int) := by omega
  unfold matV
  generalize hl : L.length = l at *
  go_enter Try.func7, Try.ntmps7
  go_upto_region 1 with fail
  rw [← hX]
  clear hX
  go_upto_region 4 with (first | (go_at_call 9; refine (KA.out _).mono ?_; rintro e w1 ⟨rfl, k1⟩; obtain ⟨m0, m1, m2, m3⟩ := hM.bl k1))
  go_upto_region 7 with (first | (go_at_call 10; refine (KL.out _ k1).mono ?_; rintro e w2 ⟨g, cap, rfl, hg, o2, k2⟩))
  obtain ⟨U0, hU0⟩ : ∃ U0, U0 = ((w2.alloc (.cells #[.int .i64 r, .int .i64 c, .int .i64 n, .slice (some ⟨g, 0, none⟩) l cap] 24)).alloc (.cells #[.int .i64 0, .int .i64 0, .int .i64 0, .slice none 0 0, .int .i64 0, .int .i64 0, .int .i64 0, .slice none 0 0, .int .i64 0, .int .i64 0, .int .i64 0, .slice none 0 0, .int .i64 0, .int .i64 0, .int .i64 0, .slice none 0 0, .int .i64 0, .int .i64 0, .int .i64 0, .slice none 0 0] 55)).alloc (.cells #[.int .i64 0, .int .i64 0, .int .i64 0, .int .i64 0, .int .i64 0] 56) := ⟨_, rfl⟩
  rw [← hU0]
  have kY : Bl X U0 := by rw [hU0]; exact (((k1.trans k2.bl).alloc _).alloc _).alloc _
  have hF : M4 U0 w2.heap.size (.int .i64 r) (.int .i64 c) (.int .i64 n) (.slice (some ⟨g, 0, none⟩) l cap) := by rw [hU0]; exact ⟨by simp [go_sem], by simp [go_sem], by simp [go_sem], by simp [go_sem]⟩
  have oY : Own U0 g cap (L ++ [-71]) := by rw [hU0]; exact o2.kept ((((Kept.refl _).alloc _ _).alloc _ _).alloc _ _)
  have hs0 : U0.heap.size = w2.heap.size + 3 := by rw [hU0]; simp
  have G0 : Arr U0 (w2.heap.size + 1) 55 [.int .i64 0, .int .i64 0, .int .i64 0, .slice none 0 0, .int .i64 0, .int .i64 0, .int .i64 0, .slice none 0 0, .int .i64 0, .int .i64 0, .int .i64 0, .slice none 0 0, .int .i64 0, .int .i64 0, .int .i64 0, .slice none 0 0, .int .i64 0, .int .i64 0, .int .i64 0, .slice none 0 0] := by
    rw [hU0]
    refine (Below.heap_alloc _ _ _ (by simp)).trans ?_
    have := heap_alloc_new (w2.alloc (.cells #[.int .i64 r, .int .i64 c, .int .i64 n, .slice (some ⟨g, 0, none⟩) l cap] 24)) (.cells #[.int .i64 0, .int .i64 0, .int .i64 0, .slice none 0 0, .int .i64 0, .int .i64 0, .int .i64 0, .slice none 0 0, .int .i64 0, .int .i64 0, .int .i64 0, .slice none 0 0, .int .i64 0, .int .i64 0, .int .i64 0, .slice none 0 0, .int .i64 0, .int .i64 0, .int .i64 0, .slice none 0 0] 55)
    simpa using this
  have E0 : Arr U0 (w2.heap.size + 2) 56 [.int .i64 0, .int .i64 0, .int .i64 0, .int .i64 0, .int .i64 0] := by
    rw [hU0]
    have := heap_alloc_new ((w2.alloc (.cells #[.int .i64 r, .int .i64 c, .int .i64 n, .slice (some ⟨g, 0, none⟩) l cap] 24)).alloc (.cells #[.int .i64 0, .int .i64 0, .int .i64 0, .slice none 0 0, .int .i64 0, .int .i64 0, .int .i64 0, .slice none 0 0, .int .i64 0, .int .i64 0, .int .i64 0, .slice none 0 0, .int .i64 0, .int .i64 0, .int .i64 0, .slice none 0 0, .int .i64 0, .int .i64 0, .int .i64 0, .slice none 0 0] 55)) (.cells #[.int .i64 0, .int .i64 0, .int .i64 0, .int .i64 0, .int .i64 0] 56)
    rw [World.size_alloc, World.size_alloc] at this
    exact this
  have hglt := o2.lt
  have hMY := hM.bl kY
  have hWY := hWX.bl kY
  have hBY := hB.trans kY
  have hszX : w.heap.size < X.heap.size := hM.lt
  have hszw : X.heap.size ≤ w2.heap.size := Nat.le_trans k1.size k2.below.size
  clear hU0 m0 m1 m2 m3 KA KL o2 k2 k1 hg hB kY hWX hM
  have H0 : GrB [w2.heap.size + 1, w2.heap.size + 2] U0 U0 := GrB.refl _ _
  generalize hb8 : w2.heap.size = B at *
  clear hb8
  obtain ⟨f0, f1, f2, f3⟩ := H0.m4 hF (by simp)
  have o0 := oY.grB H0 (by simp; omega)
  go_upto_region 8 with (first | (go_at_call 29; refine Calls.mono (P0.out _ _ _ (matIn_own o0)) ?_; rintro e x0 ⟨s, rfl, mx0, kb0⟩; obtain ⟨a0, l0, k0, rfl⟩ := mx0.form; have Gx := G0.bl kb0; have Ex := E0.bl kb0; have c0 := Gx.cell 0 _ rfl; have c1 := Gx.cell 1 _ rfl; have c2 := Gx.cell 2 _ rfl; have c3 := Gx.cell 3 _ rfl; have c4 := Ex.cell 0 _ rfl; have d0 := Gx.free 0; have d1 := Gx.free 1; have d2 := Gx.free 2; have d3 := Gx.free 3; have d4 := Ex.free 0))
  obtain ⟨U1, hU⟩ : ∃ U, U = ((((x0.setCell ⟨B + 1, 0, none⟩ (.int .i64 A0.r)).setCell ⟨B + 1, 1, none⟩ (.int .i64 A0.c)).setCell ⟨B + 1, 2, none⟩ (.int .i64 A0.n)).setCell ⟨B + 1, 3, none⟩ (.slice a0 l0 k0)).setCell ⟨B + 2, 0, none⟩ (.int .i64 A0.q) := ⟨_, rfl⟩
  rw [← hU]
  have G1 : Arr U1 (B + 1) 55 [.int .i64 A0.r, .int .i64 A0.c, .int .i64 A0.n, .slice a0 l0 k0, .int .i64 0, .int .i64 0, .int .i64 0, .slice none 0 0, .int .i64 0, .int .i64 0, .int .i64 0, .slice none 0 0, .int .i64 0, .int .i64 0, .int .i64 0, .slice none 0 0, .int .i64 0, .int .i64 0, .int .i64 0, .slice none 0 0] := by rw [hU]; exact ((((Gx.set 0 _).set 1 _).set 2 _).set 3 _).setOther (by simp) _
  have E1 : Arr U1 (B + 2) 56 [.int .i64 A0.q, .int .i64 0, .int .i64 0, .int .i64 0, .int .i64 0] := by rw [hU]; exact ((((Ex.setOther (by simp) _).setOther (by simp) _).setOther (by simp) _).setOther (by simp) _).set 0 _
  have J0 : GrB [B + 1, B + 2] U0 U1 := by rw [hU]; exact ((((((GrB.refl _ U0).bl kb0).setCell (by simp) _).setCell (by simp) _).setCell (by simp) _).setCell (by simp) _).setCell (by simp) _
  have H1 := H0.trans J0
  have hz0 : B + 3 ≤ U0.heap.size := by have := H0.size; omega
  have mr0_1 : MR U0.heap.size U1 (.slice a0 l0 k0) A0.T := by rw [hU]; exact ((((mx0.setOther (by simp; omega) _).setOther (by simp; omega) _).setOther (by simp; omega) _).setOther (by simp; omega) _).setOther (by simp; omega) _
  clear hU Gx Ex c0 c1 c2 c3 c4 d0 d1 d2 d3 d4 f0 f1 f2 f3 mx0 kb0 o0 P0
  obtain ⟨f0, f1, f2, f3⟩ := H1.m4 hF (by simp)
  have o1 := oY.grB H1 (by simp; omega)
  go_upto_region 9 with (first | (go_at_call 30; refine Calls.mono (P1.out _ _ _ (matIn_own o1)) ?_; rintro e x1 ⟨s, rfl, mx1, kb1⟩; obtain ⟨a1, l1, k1, rfl⟩ := mx1.form; have Gx := G1.bl kb1; have Ex := E1.bl kb1; have c0 := Gx.cell 4 _ rfl; have c1 := Gx.cell 5 _ rfl; have c2 := Gx.cell 6 _ rfl; have c3 := Gx.cell 7 _ rfl; have c4 := Ex.cell 1 _ rfl; have d0 := Gx.free 4; have d1 := Gx.free 5; have d2 := Gx.free 6; have d3 := Gx.free 7; have d4 := Ex.free 1))
  obtain ⟨U2, hU⟩ : ∃ U, U = ((((x1.setCell ⟨B + 1, 4, none⟩ (.int .i64 A1.r)).setCell ⟨B + 1, 5, none⟩ (.int .i64 A1.c)).setCell ⟨B + 1, 6, none⟩ (.int .i64 A1.n)).setCell ⟨B + 1, 7, none⟩ (.slice a1 l1 k1)).setCell ⟨B + 2, 1, none⟩ (.int .i64 A1.q) := ⟨_, rfl⟩
  rw [← hU]
  have G2 : Arr U2 (B + 1) 55 [.int .i64 A0.r, .int .i64 A0.c, .int .i64 A0.n, .slice a0 l0 k0, .int .i64 A1.r, .int .i64 A1.c, .int .i64 A1.n, .slice a1 l1 k1, .int .i64 0, .int .i64 0, .int .i64 0, .slice none 0 0, .int .i64 0, .int .i64 0, .int .i64 0, .slice none 0 0, .int .i64 0, .int .i64 0, .int .i64 0, .slice none 0 0] := by rw [hU]; exact ((((Gx.set 4 _).set 5 _).set 6 _).set 7 _).setOther (by simp) _
  have E2 : Arr U2 (B + 2) 56 [.int .i64 A0.q, .int .i64 A1.q, .int .i64 0, .int .i64 0, .int .i64 0] := by rw [hU]; exact ((((Ex.setOther (by simp) _).setOther (by simp) _).setOther (by simp) _).setOther (by simp) _).set 1 _
  have J1 : GrB [B + 1, B + 2] U1 U2 := by rw [hU]; exact ((((((GrB.refl _ U1).bl kb1).setCell (by simp) _).setCell (by simp) _).setCell (by simp) _).setCell (by simp) _).setCell (by simp) _
  have H2 := H1.trans J1
  have hz1 : B + 3 ≤ U1.heap.size := by have := H1.size; omega
  have mr1_2 : MR U1.heap.size U2 (.slice a1 l1 k1) A1.T := by rw [hU]; exact ((((mx1.setOther (by simp; omega) _).setOther (by simp; omega) _).setOther (by simp; omega) _).setOther (by simp; omega) _).setOther (by simp; omega) _
  have mr0_2 := mr0_1.grB J1 (by simp; omega)
  clear hU Gx Ex c0 c1 c2 c3 c4 d0 d1 d2 d3 d4 f0 f1 f2 f3 mx1 kb1 o1 P1
  obtain ⟨f0, f1, f2, f3⟩ := H2.m4 hF (by simp)
  have o2 := oY.grB H2 (by simp; omega)
  go_upto_region 10 with (first | (go_at_call 31; refine Calls.mono (P2.out _ _ _ (matIn_own o2)) ?_; rintro e x2 ⟨s, rfl, mx2, kb2⟩; obtain ⟨a2, l2, k2, rfl⟩ := mx2.form; have Gx := G2.bl kb2; have Ex := E2.bl kb2; have c0 := Gx.cell 8 _ rfl; have c1 := Gx.cell 9 _ rfl; have c2 := Gx.cell 10 _ rfl; have c3 := Gx.cell 11 _ rfl; have c4 := Ex.cell 2 _ rfl; have d0 := Gx.free 8; have d1 := Gx.free 9; have d2 := Gx.free 10; have d3 := Gx.free 11; have d4 := Ex.free 2))
  obtain ⟨U3, hU⟩ : ∃ U, U = ((((x2.setCell ⟨B + 1, 8, none⟩ (.int .i64 A2.r)).setCell ⟨B + 1, 9, none⟩ (.int .i64 A2.c)).setCell ⟨B + 1, 10, none⟩ (.int .i64 A2.n)).setCell ⟨B + 1, 11, none⟩ (.slice a2 l2 k2)).setCell ⟨B + 2, 2, none⟩ (.int .i64 A2.q) := ⟨_, rfl⟩
  rw [← hU]
  have G3 : Arr U3 (B + 1) 55 [.int .i64 A0.r, .int .i64 A0.c, .int .i64 A0.n, .slice a0 l0 k0, .int .i64 A1.r, .int .i64 A1.c, .int .i64 A1.n, .slice a1 l1 k1, .int .i64 A2.r, .int .i64 A2.c, .int .i64 A2.n, .slice a2 l2 k2, .int .i64 0, .int .i64 0, .int .i64 0, .slice none 0 0, .int .i64 0, .int .i64 0, .int .i64 0, .slice none 0 0] := by rw [hU]; exact ((((Gx.set 8 _).set 9 _).set 10 _).set 11 _).setOther (by simp) _
  have E3 : Arr U3 (B + 2) 56 [.int .i64 A0.q, .int .i64 A1.q, .int .i64 A2.q, .int .i64 0, .int .i64 0] := by rw [hU]; exact ((((Ex.setOther (by simp) _).setOther (by simp) _).setOther (by simp) _).setOther (by simp) _).set 2 _
  have J2 : GrB [B + 1, B + 2] U2 U3 := by rw [hU]; exact ((((((GrB.refl _ U2).bl kb2).setCell (by simp) _).setCell (by simp) _).setCell (by simp) _).setCell (by simp) _).setCell (by simp) _
  have H3 := H2.trans J2
  have hz2 : B + 3 ≤ U2.heap.size := by have := H2.size; omega
  have mr2_3 : MR U2.heap.size U3 (.slice a2 l2 k2) A2.T := by rw [hU]; exact ((((mx2.setOther (by simp; omega) _).setOther (by simp; omega) _).setOther (by simp; omega) _).setOther (by simp; omega) _).setOther (by simp; omega) _
  have mr0_3 := mr0_2.grB J2 (by simp; omega)
  have mr1_3 := mr1_2.grB J2 (by simp; omega)
  clear hU Gx Ex c0 c1 c2 c3 c4 d0 d1 d2 d3 d4 f0 f1 f2 f3 mx2 kb2 o2 P2
  obtain ⟨f0, f1, f2, f3⟩ := H3.m4 hF (by simp)
  have o3 := oY.grB H3 (by simp; omega)
  go_upto_region 11 with (first | (go_at_call 32; refine Calls.mono (P3.out _ _ _ (matIn_own o3)) ?_; rintro e x3 ⟨s, rfl, mx3, kb3⟩; obtain ⟨a3, l3, k3, rfl⟩ := mx3.form; have Gx := G3.bl kb3; have Ex := E3.bl kb3; have c0 := Gx.cell 12 _ rfl; have c1 := Gx.cell 13 _ rfl; have c2 := Gx.cell 14 _ rfl; have c3 := Gx.cell 15 _ rfl; have c4 := Ex.cell 3 _ rfl; have d0 := Gx.free 12; have d1 := Gx.free 13; have d2 := Gx.free 14; have d3 := Gx.free 15; have d4 := Ex.free 3))
  obtain ⟨U4, hU⟩ : ∃ U, U = ((((x3.setCell ⟨B + 1, 12, none⟩ (.int .i64 A3.r)).setCell ⟨B + 1, 13, none⟩ (.int .i64 A3.c)).setCell ⟨B + 1, 14, none⟩ (.int .i64 A3.n)).setCell ⟨B + 1, 15, none⟩ (.slice a3 l3 k3)).setCell ⟨B + 2, 3, none⟩ (.int .i64 A3.q) := ⟨_, rfl⟩
  rw [← hU]
  have G4 : Arr U4 (B + 1) 55 [.int .i64 A0.r, .int .i64 A0.c, .int .i64 A0.n, .slice a0 l0 k0, .int .i64 A1.r, .int .i64 A1.c, .int .i64 A1.n, .slice a1 l1 k1, .int .i64 A2.r, .int .i64 A2.c, .int .i64 A2.n, .slice a2 l2 k2, .int .i64 A3.r, .int .i64 A3.c, .int .i64 A3.n, .slice a3 l3 k3, .int .i64 0, .int .i64 0, .int .i64 0, .slice none 0 0] := by rw [hU]; exact ((((Gx.set 12 _).set 13 _).set 14 _).set 15 _).setOther (by simp) _
  have E4 : Arr U4 (B + 2) 56 [.int .i64 A0.q, .int .i64 A1.q, .int .i64 A2.q, .int .i64 A3.q, .int .i64 0] := by rw [hU]; exact ((((Ex.setOther (by simp) _).setOther (by simp) _).setOther (by simp) _).setOther (by simp) _).set 3 _
  have J3 : GrB [B + 1, B + 2] U3 U4 := by rw [hU]; exact ((((((GrB.refl _ U3).bl kb3).setCell (by simp) _).setCell (by simp) _).setCell (by simp) _).setCell (by simp) _).setCell (by simp) _
  have H4 := H3.trans J3
  have hz3 : B + 3 ≤ U3.heap.size := by have := H3.size; omega
  have mr3_4 : MR U3.heap.size U4 (.slice a3 l3 k3) A3.T := by rw [hU]; exact ((((mx3.setOther (by simp; omega) _).setOther (by simp; omega) _).setOther (by simp; omega) _).setOther (by simp; omega) _).setOther (by simp; omega) _
  have mr0_4 := mr0_3.grB J3 (by simp; omega)
  have mr1_4 := mr1_3.grB J3 (by simp; omega)
  have mr2_4 := mr2_3.grB J3 (by simp; omega)
  clear hU Gx Ex c0 c1 c2 c3 c4 d0 d1 d2 d3 d4 f0 f1 f2 f3 mx3 kb3 o3 P3
  obtain ⟨f0, f1, f2, f3⟩ := H4.m4 hF (by simp)
  have o4 := oY.grB H4 (by simp; omega)
  go_upto_region 12 with (first | (go_at_call 33; refine Calls.mono (P4.out _ _ _ (matIn_own o4)) ?_; rintro e x4 ⟨s, rfl, mx4, kb4⟩; obtain ⟨a4, l4, k4, rfl⟩ := mx4.form; have Gx := G4.bl kb4; have Ex := E4.bl kb4; have c0 := Gx.cell 16 _ rfl; have c1 := Gx.cell 17 _ rfl; have c2 := Gx.cell 18 _ rfl; have c3 := Gx.cell 19 _ rfl; have c4 := Ex.cell 4 _ rfl; have d0 := Gx.free 16; have d1 := Gx.free 17; have d2 := Gx.free 18; have d3 := Gx.free 19; have d4 := Ex.free 4))
  obtain ⟨U5, hU⟩ : ∃ U, U = ((((x4.setCell ⟨B + 1, 16, none⟩ (.int .i64 A4.r)).setCell ⟨B + 1, 17, none⟩ (.int .i64 A4.c)).setCell ⟨B + 1, 18, none⟩ (.int .i64 A4.n)).setCell ⟨B + 1, 19, none⟩ (.slice a4 l4 k4)).setCell ⟨B + 2, 4, none⟩ (.int .i64 A4.q) := ⟨_, rfl⟩
  rw [← hU]
  have G5 : Arr U5 (B + 1) 55 [.int .i64 A0.r, .int .i64 A0.c, .int .i64 A0.n, .slice a0 l0 k0, .int .i64 A1.r, .int .i64 A1.c, .int .i64 A1.n, .slice a1 l1 k1, .int .i64 A2.r, .int .i64 A2.c, .int .i64 A2.n, .slice a2 l2 k2, .int .i64 A3.r, .int .i64 A3.c, .int .i64 A3.n, .slice a3 l3 k3, .int .i64 A4.r, .int .i64 A4.c, .int .i64 A4.n, .slice a4 l4 k4] := by rw [hU]; exact ((((Gx.set 16 _).set 17 _).set 18 _).set 19 _).setOther (by simp) _
  have E5 : Arr U5 (B + 2) 56 [.int .i64 A0.q, .int .i64 A1.q, .int .i64 A2.q, .int .i64 A3.q, .int .i64 A4.q] := by rw [hU]; exact ((((Ex.setOther (by simp) _).setOther (by simp) _).setOther (by simp) _).setOther (by simp) _).set 4 _
  have J4 : GrB [B + 1, B + 2] U4 U5 := by rw [hU]; exact ((((((GrB.refl _ U4).bl kb4).setCell (by simp) _).setCell (by simp) _).setCell (by simp) _).setCell (by simp) _).setCell (by simp) _
  have H5 := H4.trans J4
  have hz4 : B + 3 ≤ U4.heap.size := by have := H4.size; omega
  have mr4_5 : MR U4.heap.size U5 (.slice a4 l4 k4) A4.T := by rw [hU]; exact ((((mx4.setOther (by simp; omega) _).setOther (by simp; omega) _).setOther (by simp; omega) _).setOther (by simp; omega) _).setOther (by simp; omega) _
  have mr0_5 := mr0_4.grB J4 (by simp; omega)
  have mr1_5 := mr1_4.grB J4 (by simp; omega)
  have mr2_5 := mr2_4.grB J4 (by simp; omega)
  have mr3_5 := mr3_4.grB J4 (by simp; omega)
  clear hU Gx Ex c0 c1 c2 c3 c4 d0 d1 d2 d3 d4 f0 f1 f2 f3 mx4 kb4 o4 P4
  obtain ⟨f0, f1, f2, f3⟩ := H5.m4 hF (by simp)
  obtain ⟨m0, m1, m2, m3⟩ := H5.m4 hMY (by simp; omega)
  have hW5 := hWY.grB H5 (by simp; have := hW.lt; omega)
  have KY := stays_true r c n L (by omega) g cap (some ⟨bb, off, none⟩) cp U5 (oY.grB H5 (by simp; omega)) hW5.sl
  rw [hl] at KY
  go_upto_region 15 with (first | (go_at_call 14; refine KY.mono ?_; rintro e w6 ⟨rfl, k6⟩))
  clear f0 f1 f2 f3 m0 m1 m2 m3 KY
  have H6 := H5.bl k6.bl
  have hW6 := hWY.grB H6 (by simp; have := hW.lt; omega)
  obtain ⟨m0, m1, m2, m3⟩ := H6.m4 hMY (by simp; omega)
  have KC := rcheck_any r c n (some ⟨bb, off, none⟩) cp L w6 hW6.sl
  rw [hck, hl] at KC
  go_upto_region 19 with (first | (go_at_call 15; refine KC.mono ?_; rintro e w7 ⟨rfl, k7⟩))
  clear m0 m1 m2 m3 KC
  obtain ⟨Q, hQ⟩ : ∃ Q, Q = (w7.alloc (.cells #[.int .i64 0, .int .i64 0, .int .i64 0, .slice none 0 0, .int .i64 0, .int .i64 0, .int .i64 0, .slice none 0 0, .int .i64 0, .int .i64 0, .int .i64 0, .slice none 0 0, .int .i64 0, .int .i64 0, .int .i64 0, .slice none 0 0, .int .i64 0, .int .i64 0, .int .i64 0, .slice none 0 0] 61)).alloc (.cells #[.int .i64 0, .int .i64 0, .int .i64 0, .int .i64 0, .int .i64 0] 62) := ⟨_, rfl⟩
  rw [← hQ]
  have kQ : Bl w7 Q := by rw [hQ]; exact ((Bl.refl _).alloc _).alloc _
  have V0q : Arr Q w7.heap.size 61 [.int .i64 0, .int .i64 0, .int .i64 0, .slice none 0 0, .int .i64 0, .int .i64 0, .int .i64 0, .slice none 0 0, .int .i64 0, .int .i64 0, .int .i64 0, .slice none 0 0, .int .i64 0, .int .i64 0, .int .i64 0, .slice none 0 0, .int .i64 0, .int .i64 0, .int .i64 0, .slice none 0 0] := by rw [hQ]; exact (Below.heap_alloc _ _ _ (by simp)).trans (heap_alloc_new w7 _)
  have F0q : Arr Q (w7.heap.size + 1) 62 [.int .i64 0, .int .i64 0, .int .i64 0, .int .i64 0, .int .i64 0] := by
    rw [hQ]
    have := heap_alloc_new (w7.alloc (.cells #[.int .i64 0, .int .i64 0, .int .i64 0, .slice none 0 0, .int .i64 0, .int .i64 0, .int .i64 0, .slice none 0 0, .int .i64 0, .int .i64 0, .int .i64 0, .slice none 0 0, .int .i64 0, .int .i64 0, .int .i64 0, .slice none 0 0, .int .i64 0, .int .i64 0, .int .i64 0, .slice none 0 0] 61)) (.cells #[.int .i64 0, .int .i64 0, .int .i64 0, .int .i64 0, .int .i64 0] 62)
    rw [World.size_alloc] at this
    exact this
  have hQs : Q.heap.size = w7.heap.size + 2 := by rw [hQ]; simp
  clear hQ
  have H7 := (H6.bl k7.bl).bl kQ
  have kU5 : Bl U5 Q := (k6.bl.trans k7.bl).trans kQ
  have hWQ := hWY.grB H7 (by simp; have := hW.lt; omega)
  obtain ⟨m0, m1, m2, m3⟩ := H7.m4 hMY (by simp; omega)
  have hz7 : B + 3 ≤ w7.heap.size := by have := (H6.bl k7.bl).size; omega
  have hU57 : U5.heap.size ≤ w7.heap.size := (k6.trans k7).below.size
  have KO := rof_any r c n (.slice (some ⟨bb, off, none⟩) l cp) Q
  go_upto_region 20 with (first | (go_at_call 34; refine KO.mono ?_; rintro e w8 ⟨rfl, k8⟩))
  clear m0 m1 m2 m3 KO
  obtain ⟨V0, hV0⟩ : ∃ V, V = w8.alloc (.cells #[.int .i64 r, .int .i64 c, .int .i64 n] 44) := ⟨_, rfl⟩
  rw [← hV0]
  have kV : Bl Q V0 := by rw [hV0]; exact k8.bl.alloc _
  have hSB : M3 V0 w8.heap.size (.int .i64 r) (.int .i64 c) (.int .i64 n) := by rw [hV0]; exact M3.new _ _ _ _ _
  have g0 := V0q.bl kV
  have e0 := F0q.bl kV
  have h8 := k8.below.size
  have hV0s := hSB.lt
  have kU5V : Bl U5 V0 := kU5.trans kV
  have hWV := hWQ.bl kV
  generalize w8.heap.size = B15 at *
  generalize hB13 : w7.heap.size = B13 at *
  clear hV0 V0q F0q kQ kU5 k8 hB13
  have I0 : GrB [B13, B13 + 1] V0 V0 := GrB.refl _ _
  have hbbV : bb < w.heap.size := hW.lt
  obtain ⟨s0, s1, s2⟩ := I0.m3 hSB (by simp; omega)
  have hWi := hWV.grB I0 (by simp; omega)
  go_upto_region 21 with (first | (go_at_call 35; refine (D0.out _ hWi).mono ?_; rintro e y0 ⟨vr0, vc0, vn0, vs, rfl, kd0, mv0⟩; obtain ⟨⟨va0, vl0, vk0, rfl⟩, mv0⟩ := mv0; have gx := g0.bl kd0.bl; have ex := e0.bl kd0.bl; have c0 := gx.cell 0 _ rfl; have c1 := gx.cell 1 _ rfl; have c2 := gx.cell 2 _ rfl; have c3 := gx.cell 3 _ rfl; have d0 := gx.free 0; have d1 := gx.free 1; have d2 := gx.free 2; have d3 := gx.free 3))
  obtain ⟨V1, hU⟩ : ∃ U, U = (((y0.setCell ⟨B13, 0, none⟩ (.int .i64 vr0)).setCell ⟨B13, 1, none⟩ (.int .i64 vc0)).setCell ⟨B13, 2, none⟩ (.int .i64 vn0)).setCell ⟨B13, 3, none⟩ (.slice va0 vl0 vk0) := ⟨_, rfl⟩
  rw [← hU]
  have g1 : Arr V1 B13 61 [.int .i64 vr0, .int .i64 vc0, .int .i64 vn0, .slice va0 vl0 vk0, .int .i64 0, .int .i64 0, .int .i64 0, .slice none 0 0, .int .i64 0, .int .i64 0, .int .i64 0, .slice none 0 0, .int .i64 0, .int .i64 0, .int .i64 0, .slice none 0 0, .int .i64 0, .int .i64 0, .int .i64 0, .slice none 0 0] := by rw [hU]; exact (((gx.set 0 _).set 1 _).set 2 _).set 3 _
  have e1 : Arr V1 (B13 + 1) 62 [.int .i64 0, .int .i64 0, .int .i64 0, .int .i64 0, .int .i64 0] := by rw [hU]; exact (((ex.setOther (by simp) _).setOther (by simp) _).setOther (by simp) _).setOther (by simp) _
  have jy0_1 : GrB [B13, B13 + 1] y0 V1 := by rw [hU]; exact (((((GrB.refl _ y0).setCell (by simp) _).setCell (by simp) _).setCell (by simp) _).setCell (by simp) _)
  have L0 : GrB [B13, B13 + 1] V0 V1 := ((GrB.refl _ V0).bl kd0.bl).trans jy0_1
  have I1 := I0.trans L0
  have hv0 : V0.heap.size ≤ V0.heap.size := I0.size
  have HM0 : Hid _ := mv0
  clear hU gx ex c0 c1 c2 c3 d0 d1 d2 d3 s0 s1 s2 hWi mv0 D0
  obtain ⟨s0, s1, s2⟩ := I1.m3 hSB (by simp; omega)
  have hWi := hWV.grB I1 (by simp; omega)
  go_upto_region 22 with (first | (go_at_call 36; refine (D1.out _ hWi).mono ?_; rintro e y1 ⟨vr1, vc1, vn1, vs, fe1, rfl, kd1, mv1⟩; obtain ⟨⟨va1, vl1, vk1, rfl⟩, mv1⟩ := mv1; have gx := g1.bl kd1.bl; have ex := e1.bl kd1.bl; have c0 := gx.cell 4 _ rfl; have c1 := gx.cell 5 _ rfl; have c2 := gx.cell 6 _ rfl; have c3 := gx.cell 7 _ rfl; have d0 := gx.free 4; have d1 := gx.free 5; have d2 := gx.free 6; have d3 := gx.free 7; have c4 := ex.cell 1 _ rfl; have d4 := ex.free 1))
  obtain ⟨V2, hU⟩ : ∃ U, U = ((((y1.setCell ⟨B13, 4, none⟩ (.int .i64 vr1)).setCell ⟨B13, 5, none⟩ (.int .i64 vc1)).setCell ⟨B13, 6, none⟩ (.int .i64 vn1)).setCell ⟨B13, 7, none⟩ (.slice va1 vl1 vk1)).setCell ⟨B13 + 1, 1, none⟩ (.int .i64 fe1) := ⟨_, rfl⟩
  rw [← hU]
  have g2 : Arr V2 B13 61 [.int .i64 vr0, .int .i64 vc0, .int .i64 vn0, .slice va0 vl0 vk0, .int .i64 vr1, .int .i64 vc1, .int .i64 vn1, .slice va1 vl1 vk1, .int .i64 0, .int .i64 0, .int .i64 0, .slice none 0 0, .int .i64 0, .int .i64 0, .int .i64 0, .slice none 0 0, .int .i64 0, .int .i64 0, .int .i64 0, .slice none 0 0] := by rw [hU]; exact ((((gx.set 4 _).set 5 _).set 6 _).set 7 _).setOther (by simp) _
  have e2 : Arr V2 (B13 + 1) 62 [.int .i64 0, .int .i64 fe1, .int .i64 0, .int .i64 0, .int .i64 0] := by rw [hU]; exact ((((ex.setOther (by simp) _).setOther (by simp) _).setOther (by simp) _).setOther (by simp) _).set 1 _
  have jy1_2 : GrB [B13, B13 + 1] y1 V2 := by rw [hU]; exact ((((((GrB.refl _ y1).setCell (by simp) _).setCell (by simp) _).setCell (by simp) _).setCell (by simp) _)).setCell (by simp) _
  have L1 : GrB [B13, B13 + 1] V1 V2 := ((GrB.refl _ V1).bl kd1.bl).trans jy1_2
  have I2 := I1.trans L1
  have hv1 : V0.heap.size ≤ V1.heap.size := I1.size
  have jy0_2 := jy0_1.trans L1
  have HM1 : Hid _ := mv1
  clear hU gx ex c0 c1 c2 c3 d0 d1 d2 d3 s0 s1 s2 hWi mv1 D1
  clear c4 d4
  obtain ⟨s0, s1, s2⟩ := I2.m3 hSB (by simp; omega)
  have hWi := hWV.grB I2 (by simp; omega)
  go_upto_region 23 with (first | (go_at_call 37; refine (D2.out _ hWi).mono ?_; rintro e y2 ⟨vr2, vc2, vn2, vs, fe2, rfl, kd2, mv2⟩; obtain ⟨⟨va2, vl2, vk2, rfl⟩, mv2⟩ := mv2; have gx := g2.bl kd2.bl; have ex := e2.bl kd2.bl; have c0 := gx.cell 8 _ rfl; have c1 := gx.cell 9 _ rfl; have c2 := gx.cell 10 _ rfl; have c3 := gx.cell 11 _ rfl; have d0 := gx.free 8; have d1 := gx.free 9; have d2 := gx.free 10; have d3 := gx.free 11; have c4 := ex.cell 2 _ rfl; have d4 := ex.free 2))
  obtain ⟨V3, hU⟩ : ∃ U, U = ((((y2.setCell ⟨B13, 8, none⟩ (.int .i64 vr2)).setCell ⟨B13, 9, none⟩ (.int .i64 vc2)).setCell ⟨B13, 10, none⟩ (.int .i64 vn2)).setCell ⟨B13, 11, none⟩ (.slice va2 vl2 vk2)).setCell ⟨B13 + 1, 2, none⟩ (.int .i64 fe2) := ⟨_, rfl⟩
  rw [← hU]
  have g3 : Arr V3 B13 61 [.int .i64 vr0, .int .i64 vc0, .int .i64 vn0, .slice va0 vl0 vk0, .int .i64 vr1, .int .i64 vc1, .int .i64 vn1, .slice va1 vl1 vk1, .int .i64 vr2, .int .i64 vc2, .int .i64 vn2, .slice va2 vl2 vk2, .int .i64 0, .int .i64 0, .int .i64 0, .slice none 0 0, .int .i64 0, .int .i64 0, .int .i64 0, .slice none 0 0] := by rw [hU]; exact ((((gx.set 8 _).set 9 _).set 10 _).set 11 _).setOther (by simp) _
  have e3 : Arr V3 (B13 + 1) 62 [.int .i64 0, .int .i64 fe1, .int .i64 fe2, .int .i64 0, .int .i64 0] := by rw [hU]; exact ((((ex.setOther (by simp) _).setOther (by simp) _).setOther (by simp) _).setOther (by simp) _).set 2 _
  have jy2_3 : GrB [B13, B13 + 1] y2 V3 := by rw [hU]; exact ((((((GrB.refl _ y2).setCell (by simp) _).setCell (by simp) _).setCell (by simp) _).setCell (by simp) _)).setCell (by simp) _
  have L2 : GrB [B13, B13 + 1] V2 V3 := ((GrB.refl _ V2).bl kd2.bl).trans jy2_3
  have I3 := I2.trans L2
  have hv2 : V0.heap.size ≤ V2.heap.size := I2.size
  have jy0_3 := jy0_2.trans L2
  have jy1_3 := jy1_2.trans L2
  have HM2 : Hid _ := mv2
  clear hU gx ex c0 c1 c2 c3 d0 d1 d2 d3 s0 s1 s2 hWi mv2 D2
  clear c4 d4
  obtain ⟨s0, s1, s2⟩ := I3.m3 hSB (by simp; omega)
  have hWi := hWV.grB I3 (by simp; omega)
  go_upto_region 24 with (first | (go_at_call 37; refine (D3.out _ hWi).mono ?_; rintro e y3 ⟨vr3, vc3, vn3, vs, fe3, rfl, kd3, mv3⟩; obtain ⟨⟨va3, vl3, vk3, rfl⟩, mv3⟩ := mv3; have gx := g3.bl kd3.bl; have ex := e3.bl kd3.bl; have c0 := gx.cell 12 _ rfl; have c1 := gx.cell 13 _ rfl; have c2 := gx.cell 14 _ rfl; have c3 := gx.cell 15 _ rfl; have d0 := gx.free 12; have d1 := gx.free 13; have d2 := gx.free 14; have d3 := gx.free 15; have c4 := ex.cell 3 _ rfl; have d4 := ex.free 3))
  obtain ⟨V4, hU⟩ : ∃ U, U = ((((y3.setCell ⟨B13, 12, none⟩ (.int .i64 vr3)).setCell ⟨B13, 13, none⟩ (.int .i64 vc3)).setCell ⟨B13, 14, none⟩ (.int .i64 vn3)).setCell ⟨B13, 15, none⟩ (.slice va3 vl3 vk3)).setCell ⟨B13 + 1, 3, none⟩ (.int .i64 fe3) := ⟨_, rfl⟩
  rw [← hU]
  have g4 : Arr V4 B13 61 [.int .i64 vr0, .int .i64 vc0, .int .i64 vn0, .slice va0 vl0 vk0, .int .i64 vr1, .int .i64 vc1, .int .i64 vn1, .slice va1 vl1 vk1, .int .i64 vr2, .int .i64 vc2, .int .i64 vn2, .slice va2 vl2 vk2, .int .i64 vr3, .int .i64 vc3, .int .i64 vn3, .slice va3 vl3 vk3, .int .i64 0, .int .i64 0, .int .i64 0, .slice none 0 0] := by rw [hU]; exact ((((gx.set 12 _).set 13 _).set 14 _).set 15 _).setOther (by simp) _
  have e4 : Arr V4 (B13 + 1) 62 [.int .i64 0, .int .i64 fe1, .int .i64 fe2, .int .i64 fe3, .int .i64 0] := by rw [hU]; exact ((((ex.setOther (by simp) _).setOther (by simp) _).setOther (by simp) _).setOther (by simp) _).set 3 _
  have jy3_4 : GrB [B13, B13 + 1] y3 V4 := by rw [hU]; exact ((((((GrB.refl _ y3).setCell (by simp) _).setCell (by simp) _).setCell (by simp) _).setCell (by simp) _)).setCell (by simp) _
  have L3 : GrB [B13, B13 + 1] V3 V4 := ((GrB.refl _ V3).bl kd3.bl).trans jy3_4
  have I4 := I3.trans L3
  have hv3 : V0.heap.size ≤ V3.heap.size := I3.size
  have jy0_4 := jy0_3.trans L3
  have jy1_4 := jy1_3.trans L3
  have jy2_4 := jy2_3.trans L3
  have HM3 : Hid _ := mv3
  clear hU gx ex c0 c1 c2 c3 d0 d1 d2 d3 s0 s1 s2 hWi mv3 D3
  clear c4 d4
  obtain ⟨s0, s1, s2⟩ := I4.m3 hSB (by simp; omega)
  have hWi := hWV.grB I4 (by simp; omega)
  go_upto_region 25 with (first | (go_at_call 38; refine (D4.out _ hWi).mono ?_; rintro e y4 ⟨vr4, vc4, vn4, vs, fe4, rfl, kd4, mv4⟩; obtain ⟨⟨va4, vl4, vk4, rfl⟩, mv4⟩ := mv4; have gx := g4.bl kd4.bl; have ex := e4.bl kd4.bl; have c0 := gx.cell 16 _ rfl; have c1 := gx.cell 17 _ rfl; have c2 := gx.cell 18 _ rfl; have c3 := gx.cell 19 _ rfl; have d0 := gx.free 16; have d1 := gx.free 17; have d2 := gx.free 18; have d3 := gx.free 19; have c4 := ex.cell 4 _ rfl; have d4 := ex.free 4))
  obtain ⟨V5, hU⟩ : ∃ U, U = ((((y4.setCell ⟨B13, 16, none⟩ (.int .i64 vr4)).setCell ⟨B13, 17, none⟩ (.int .i64 vc4)).setCell ⟨B13, 18, none⟩ (.int .i64 vn4)).setCell ⟨B13, 19, none⟩ (.slice va4 vl4 vk4)).setCell ⟨B13 + 1, 4, none⟩ (.int .i64 fe4) := ⟨_, rfl⟩
  rw [← hU]
  have g5 : Arr V5 B13 61 [.int .i64 vr0, .int .i64 vc0, .int .i64 vn0, .slice va0 vl0 vk0, .int .i64 vr1, .int .i64 vc1, .int .i64 vn1, .slice va1 vl1 vk1, .int .i64 vr2, .int .i64 vc2, .int .i64 vn2, .slice va2 vl2 vk2, .int .i64 vr3, .int .i64 vc3, .int .i64 vn3, .slice va3 vl3 vk3, .int .i64 vr4, .int .i64 vc4, .int .i64 vn4, .slice va4 vl4 vk4] := by rw [hU]; exact ((((gx.set 16 _).set 17 _).set 18 _).set 19 _).setOther (by simp) _
  have e5 : Arr V5 (B13 + 1) 62 [.int .i64 0, .int .i64 fe1, .int .i64 fe2, .int .i64 fe3, .int .i64 fe4] := by rw [hU]; exact ((((ex.setOther (by simp) _).setOther (by simp) _).setOther (by simp) _).setOther (by simp) _).set 4 _
  have jy4_5 : GrB [B13, B13 + 1] y4 V5 := by rw [hU]; exact ((((((GrB.refl _ y4).setCell (by simp) _).setCell (by simp) _).setCell (by simp) _).setCell (by simp) _)).setCell (by simp) _
  have L4 : GrB [B13, B13 + 1] V4 V5 := ((GrB.refl _ V4).bl kd4.bl).trans jy4_5
  have I5 := I4.trans L4
  have hv4 : V0.heap.size ≤ V4.heap.size := I4.size
  have jy0_5 := jy0_4.trans L4
  have jy1_5 := jy1_4.trans L4
  have jy2_5 := jy2_4.trans L4
  have jy3_5 := jy3_4.trans L4
  have HM4 : Hid _ := mv4
  clear hU gx ex c0 c1 c2 c3 d0 d1 d2 d3 s0 s1 s2 hWi mv4 D4
  clear c4 d4
  have GV := (G5.bl kU5V).on (I5.block (B + 1) (by have := kU5V.size; have := H5.size; omega) (by simp; omega))
  have EV := (E5.bl kU5V).on (I5.block (B + 2) (by have := kU5V.size; have := H5.size; omega) (by simp; omega))
  have hM5 := I5.m4 ((H5.m4 hMY (by simp; omega)).bl kU5V) (by simp; omega)
  have hF5 := I5.m4 ((H5.m4 hF (by simp)).bl kU5V) (by simp; omega)
  have hO5 := ((oY.grB H5 (by simp; omega)).bl kU5V).grB I5 (by simp; omega)
  have hWf := hWV.grB I5 (by simp; omega)
  have hu01 : U0.heap.size ≤ U1.heap.size := J0.size
  have hu12 : U1.heap.size ≤ U2.heap.size := J1.size
  have hu23 : U2.heap.size ≤ U3.heap.size := J2.size
  have hu34 : U3.heap.size ≤ U4.heap.size := J3.size
  have hu45 : U4.heap.size ≤ U5.heap.size := J4.size
  have hu5V : U5.heap.size ≤ V0.heap.size := kU5V.size
  have hb0 : ∀ x ∈ blkS (.slice a0 l0 k0), U0.heap.size ≤ x ∧ x < U1.heap.size := blkS_mr mr0_1
  have mf0 : MR U0.heap.size V5 (.slice a0 l0 k0) A0.T := (mr0_5.bl kU5V).grN I5 (fun x hx => by have := hb0 x hx; simp; omega)
  have hb1 : ∀ x ∈ blkS (.slice a1 l1 k1), U1.heap.size ≤ x ∧ x < U2.heap.size := blkS_mr mr1_2
  have mf1 : MR U1.heap.size V5 (.slice a1 l1 k1) A1.T := (mr1_5.bl kU5V).grN I5 (fun x hx => by have := hb1 x hx; simp; omega)
  have hb2 : ∀ x ∈ blkS (.slice a2 l2 k2), U2.heap.size ≤ x ∧ x < U3.heap.size := blkS_mr mr2_3
  have mf2 : MR U2.heap.size V5 (.slice a2 l2 k2) A2.T := (mr2_5.bl kU5V).grN I5 (fun x hx => by have := hb2 x hx; simp; omega)
  have hb3 : ∀ x ∈ blkS (.slice a3 l3 k3), U3.heap.size ≤ x ∧ x < U4.heap.size := blkS_mr mr3_4
  have mf3 : MR U3.heap.size V5 (.slice a3 l3 k3) A3.T := (mr3_5.bl kU5V).grN I5 (fun x hx => by have := hb3 x hx; simp; omega)
  have hb4 : ∀ x ∈ blkS (.slice a4 l4 k4), U4.heap.size ≤ x ∧ x < U5.heap.size := blkS_mr mr4_5
  have mf4 : MR U4.heap.size V5 (.slice a4 l4 k4) A4.T := (mr4_5.bl kU5V).grN I5 (fun x hx => by have := hb4 x hx; simp; omega)
  obtain ⟨ht0, ht1, ht2, ht3, ht4⟩ := ht
  have KN : Hid (∀ u e, Calls Try.prog 16 #[.int .i64 e] u fun r w' => r = .returned (.int .i64 e) ∧ u = w') := fun u e => num_any e u
  have hS : ∀ k, k ≤ 5 → ∀ x ∈ blks (pk5 (.slice a0 l0 k0) (.slice a1 l1 k1) (.slice a2 l2 k2) (.slice a3 l3 k3) (.slice a4 l4 k4)) k, U0.heap.size ≤ x ∧ x < (pk5 U0.heap.size U1.heap.size U2.heap.size U3.heap.size U4.heap.size) k ∨ k = 5 ∧ U0.heap.size ≤ x ∧ x < U5.heap.size := by
    have q0 : ∀ x ∈ blks (pk5 (.slice a0 l0 k0) (.slice a1 l1 k1) (.slice a2 l2 k2) (.slice a3 l3 k3) (.slice a4 l4 k4)) 0, False := fun x hx => by cases hx
    have q1 : ∀ x ∈ blks (pk5 (.slice a0 l0 k0) (.slice a1 l1 k1) (.slice a2 l2 k2) (.slice a3 l3 k3) (.slice a4 l4 k4)) 1, U0.heap.size ≤ x ∧ x < U1.heap.size := fun x hx => by
      rcases List.mem_append.1 hx with hx | hx
      · have := q0 x hx
        exact this.elim
      · have := hb0 x hx
        omega
    have q2 : ∀ x ∈ blks (pk5 (.slice a0 l0 k0) (.slice a1 l1 k1) (.slice a2 l2 k2) (.slice a3 l3 k3) (.slice a4 l4 k4)) 2, U0.heap.size ≤ x ∧ x < U2.heap.size := fun x hx => by
      rcases List.mem_append.1 hx with hx | hx
      · have := q1 x hx
        omega
      · have := hb1 x hx
        omega
    have q3 : ∀ x ∈ blks (pk5 (.slice a0 l0 k0) (.slice a1 l1 k1) (.slice a2 l2 k2) (.slice a3 l3 k3) (.slice a4 l4 k4)) 3, U0.heap.size ≤ x ∧ x < U3.heap.size := fun x hx => by
      rcases List.mem_append.1 hx with hx | hx
      · have := q2 x hx
        omega
      · have := hb2 x hx
        omega
    have q4 : ∀ x ∈ blks (pk5 (.slice a0 l0 k0) (.slice a1 l1 k1) (.slice a2 l2 k2) (.slice a3 l3 k3) (.slice a4 l4 k4)) 4, U0.heap.size ≤ x ∧ x < U4.heap.size := fun x hx => by
      rcases List.mem_append.1 hx with hx | hx
      · have := q3 x hx
        omega
      · have := hb3 x hx
        omega
    have q5 : ∀ x ∈ blks (pk5 (.slice a0 l0 k0) (.slice a1 l1 k1) (.slice a2 l2 k2) (.slice a3 l3 k3) (.slice a4 l4 k4)) 5, U0.heap.size ≤ x ∧ x < U5.heap.size := fun x hx => by
      rcases List.mem_append.1 hx with hx | hx
      · have := q4 x hx
        omega
      · have := hb4 x hx
        omega
    intro k hk x hx
    match k, hk, hx with
    | 0, _, hx => exact (q0 x hx).elim
    | 1, _, hx => exact .inl (q1 x hx)
    | 2, _, hx => exact .inl (q2 x hx)
    | 3, _, hx => exact .inl (q3 x hx)
    | 4, _, hx => exact .inl (q4 x hx)
    | 5, _, hx => exact .inr ⟨rfl, q5 x hx⟩
  have R0 : RndAt w.heap.size B B13 (some ⟨bb, off, none⟩) l cp r c n V5 0 A0 (.slice a0 l0 k0) (blks (pk5 (.slice a0 l0 k0) (.slice a1 l1 k1) (.slice a2 l2 k2) (.slice a3 l3 k3) (.slice a4 l4 k4)) 0) := by
    have hSi : ∀ x ∈ blks (pk5 (.slice a0 l0 k0) (.slice a1 l1 k1) (.slice a2 l2 k2) (.slice a3 l3 k3) (.slice a4 l4 k4)) 0, U0.heap.size ≤ x ∧ x < U0.heap.size := fun x hx => by
      rcases hS 0 (by omega) x hx with h | h
      · exact h
      · exact absurd h.1 (by decide)
    refine ⟨vr0, vc0, vn0, va0, vl0, vk0, 0, a0, l0, k0, U0.heap.size, rfl, ht0, fun u hu => ?_⟩
    have gR := GV.on (hu.block (B + 1) (by have := I5.size; omega) (fun hm => by have := hSi _ hm; omega))
    have eR := EV.on (hu.block (B + 2) (by have := I5.size; omega) (fun hm => by have := hSi _ hm; omega))
    have vR := g5.on (hu.block B13 g5.lt (fun hm => by have := hSi _ hm; omega))
    have fR := e5.on (hu.block (B13 + 1) e5.lt (fun hm => by have := hSi _ hm; omega))
    refine ⟨hu.m4 hM5 (fun hm => by have := hSi _ hm; omega), ⟨vR.cell 0 _ rfl, vR.cell 1 _ rfl, vR.cell 2 _ rfl, vR.cell 3 _ rfl⟩, fR.cell 0 _ rfl, ⟨gR.cell 0 _ rfl, gR.cell 1 _ rfl, gR.cell 2 _ rfl, gR.cell 3 _ rfl⟩, eR.cell 0 _ rfl, mf0.grN hu (fun x hx hm => by have := hb0 x hx; have := hSi x hm; omega), fun u' k => ?_⟩
    have hg : GrB ([B13, B13 + 1] ++ blks (pk5 (.slice a0 l0 k0) (.slice a1 l1 k1) (.slice a2 l2 k2) (.slice a3 l3 k3) (.slice a4 l4 k4)) 0) y0 u' := ((jy0_5.mono (by simp)).trans (hu.mono (fun x hx => List.mem_append_right _ hx))).bl k.bl
    have := HM0.out _ u' hg (fun x hx => by
      rcases List.mem_append.1 hx with hx | hx
      · have : x = B13 ∨ x = B13 + 1 := by simpa using hx
        omega
      · have := hSi x hx
        omega)
    exact this
  have R1 : RndAt w.heap.size B B13 (some ⟨bb, off, none⟩) l cp r c n V5 1 A1 (.slice a1 l1 k1) (blks (pk5 (.slice a0 l0 k0) (.slice a1 l1 k1) (.slice a2 l2 k2) (.slice a3 l3 k3) (.slice a4 l4 k4)) 1) := by
    have hSi : ∀ x ∈ blks (pk5 (.slice a0 l0 k0) (.slice a1 l1 k1) (.slice a2 l2 k2) (.slice a3 l3 k3) (.slice a4 l4 k4)) 1, U0.heap.size ≤ x ∧ x < U1.heap.size := fun x hx => by
      rcases hS 1 (by omega) x hx with h | h
      · exact h
      · exact absurd h.1 (by decide)
    refine ⟨vr1, vc1, vn1, va1, vl1, vk1, fe1, a1, l1, k1, U1.heap.size, rfl, ht1, fun u hu => ?_⟩
    have gR := GV.on (hu.block (B + 1) (by have := I5.size; omega) (fun hm => by have := hSi _ hm; omega))
    have eR := EV.on (hu.block (B + 2) (by have := I5.size; omega) (fun hm => by have := hSi _ hm; omega))
    have vR := g5.on (hu.block B13 g5.lt (fun hm => by have := hSi _ hm; omega))
    have fR := e5.on (hu.block (B13 + 1) e5.lt (fun hm => by have := hSi _ hm; omega))
    refine ⟨hu.m4 hM5 (fun hm => by have := hSi _ hm; omega), ⟨vR.cell 4 _ rfl, vR.cell 5 _ rfl, vR.cell 6 _ rfl, vR.cell 7 _ rfl⟩, fR.cell 1 _ rfl, ⟨gR.cell 4 _ rfl, gR.cell 5 _ rfl, gR.cell 6 _ rfl, gR.cell 7 _ rfl⟩, eR.cell 1 _ rfl, mf1.grN hu (fun x hx hm => by have := hb1 x hx; have := hSi x hm; omega), fun u' k => ?_⟩
    have hg : GrB ([B13, B13 + 1] ++ blks (pk5 (.slice a0 l0 k0) (.slice a1 l1 k1) (.slice a2 l2 k2) (.slice a3 l3 k3) (.slice a4 l4 k4)) 1) y1 u' := ((jy1_5.mono (by simp)).trans (hu.mono (fun x hx => List.mem_append_right _ hx))).bl k.bl
    have := HM1.out _ u' hg (fun x hx => by
      rcases List.mem_append.1 hx with hx | hx
      · have : x = B13 ∨ x = B13 + 1 := by simpa using hx
        omega
      · have := hSi x hx
        omega)
    exact this
  have R2 : RndAt w.heap.size B B13 (some ⟨bb, off, none⟩) l cp r c n V5 2 A2 (.slice a2 l2 k2) (blks (pk5 (.slice a0 l0 k0) (.slice a1 l1 k1) (.slice a2 l2 k2) (.slice a3 l3 k3) (.slice a4 l4 k4)) 2) := by
    have hSi : ∀ x ∈ blks (pk5 (.slice a0 l0 k0) (.slice a1 l1 k1) (.slice a2 l2 k2) (.slice a3 l3 k3) (.slice a4 l4 k4)) 2, U0.heap.size ≤ x ∧ x < U2.heap.size := fun x hx => by
      rcases hS 2 (by omega) x hx with h | h
      · exact h
      · exact absurd h.1 (by decide)
    refine ⟨vr2, vc2, vn2, va2, vl2, vk2, fe2, a2, l2, k2, U2.heap.size, rfl, ht2, fun u hu => ?_⟩
    have gR := GV.on (hu.block (B + 1) (by have := I5.size; omega) (fun hm => by have := hSi _ hm; omega))
    have eR := EV.on (hu.block (B + 2) (by have := I5.size; omega) (fun hm => by have := hSi _ hm; omega))
    have vR := g5.on (hu.block B13 g5.lt (fun hm => by have := hSi _ hm; omega))
    have fR := e5.on (hu.block (B13 + 1) e5.lt (fun hm => by have := hSi _ hm; omega))
    refine ⟨hu.m4 hM5 (fun hm => by have := hSi _ hm; omega), ⟨vR.cell 8 _ rfl, vR.cell 9 _ rfl, vR.cell 10 _ rfl, vR.cell 11 _ rfl⟩, fR.cell 2 _ rfl, ⟨gR.cell 8 _ rfl, gR.cell 9 _ rfl, gR.cell 10 _ rfl, gR.cell 11 _ rfl⟩, eR.cell 2 _ rfl, mf2.grN hu (fun x hx hm => by have := hb2 x hx; have := hSi x hm; omega), fun u' k => ?_⟩
    have hg : GrB ([B13, B13 + 1] ++ blks (pk5 (.slice a0 l0 k0) (.slice a1 l1 k1) (.slice a2 l2 k2) (.slice a3 l3 k3) (.slice a4 l4 k4)) 2) y2 u' := ((jy2_5.mono (by simp)).trans (hu.mono (fun x hx => List.mem_append_right _ hx))).bl k.bl
    have := HM2.out _ u' hg (fun x hx => by
      rcases List.mem_append.1 hx with hx | hx
      · have : x = B13 ∨ x = B13 + 1 := by simpa using hx
        omega
      · have := hSi x hx
        omega)
    exact this
  have R3 : RndAt w.heap.size B B13 (some ⟨bb, off, none⟩) l cp r c n V5 3 A3 (.slice a3 l3 k3) (blks (pk5 (.slice a0 l0 k0) (.slice a1 l1 k1) (.slice a2 l2 k2) (.slice a3 l3 k3) (.slice a4 l4 k4)) 3) := by
    have hSi : ∀ x ∈ blks (pk5 (.slice a0 l0 k0) (.slice a1 l1 k1) (.slice a2 l2 k2) (.slice a3 l3 k3) (.slice a4 l4 k4)) 3, U0.heap.size ≤ x ∧ x < U3.heap.size := fun x hx => by
      rcases hS 3 (by omega) x hx with h | h
      · exact h
      · exact absurd h.1 (by decide)
    refine ⟨vr3, vc3, vn3, va3, vl3, vk3, fe3, a3, l3, k3, U3.heap.size, rfl, ht3, fun u hu => ?_⟩
    have gR := GV.on (hu.block (B + 1) (by have := I5.size; omega) (fun hm => by have := hSi _ hm; omega))
    have eR := EV.on (hu.block (B + 2) (by have := I5.size; omega) (fun hm => by have := hSi _ hm; omega))
    have vR := g5.on (hu.block B13 g5.lt (fun hm => by have := hSi _ hm; omega))
    have fR := e5.on (hu.block (B13 + 1) e5.lt (fun hm => by have := hSi _ hm; omega))
    refine ⟨hu.m4 hM5 (fun hm => by have := hSi _ hm; omega), ⟨vR.cell 12 _ rfl, vR.cell 13 _ rfl, vR.cell 14 _ rfl, vR.cell 15 _ rfl⟩, fR.cell 3 _ rfl, ⟨gR.cell 12 _ rfl, gR.cell 13 _ rfl, gR.cell 14 _ rfl, gR.cell 15 _ rfl⟩, eR.cell 3 _ rfl, mf3.grN hu (fun x hx hm => by have := hb3 x hx; have := hSi x hm; omega), fun u' k => ?_⟩
    have hg : GrB ([B13, B13 + 1] ++ blks (pk5 (.slice a0 l0 k0) (.slice a1 l1 k1) (.slice a2 l2 k2) (.slice a3 l3 k3) (.slice a4 l4 k4)) 3) y3 u' := ((jy3_5.mono (by simp)).trans (hu.mono (fun x hx => List.mem_append_right _ hx))).bl k.bl
    have := HM3.out _ u' hg (fun x hx => by
      rcases List.mem_append.1 hx with hx | hx
      · have : x = B13 ∨ x = B13 + 1 := by simpa using hx
        omega
      · have := hSi x hx
        omega)
    exact this
  have R4 : RndAt w.heap.size B B13 (some ⟨bb, off, none⟩) l cp r c n V5 4 A4 (.slice a4 l4 k4) (blks (pk5 (.slice a0 l0 k0) (.slice a1 l1 k1) (.slice a2 l2 k2) (.slice a3 l3 k3) (.slice a4 l4 k4)) 4) := by
    have hSi : ∀ x ∈ blks (pk5 (.slice a0 l0 k0) (.slice a1 l1 k1) (.slice a2 l2 k2) (.slice a3 l3 k3) (.slice a4 l4 k4)) 4, U0.heap.size ≤ x ∧ x < U4.heap.size := fun x hx => by
      rcases hS 4 (by omega) x hx with h | h
      · exact h
      · exact absurd h.1 (by decide)
    refine ⟨vr4, vc4, vn4, va4, vl4, vk4, fe4, a4, l4, k4, U4.heap.size, rfl, ht4, fun u hu => ?_⟩
    have gR := GV.on (hu.block (B + 1) (by have := I5.size; omega) (fun hm => by have := hSi _ hm; omega))
    have eR := EV.on (hu.block (B + 2) (by have := I5.size; omega) (fun hm => by have := hSi _ hm; omega))
    have vR := g5.on (hu.block B13 g5.lt (fun hm => by have := hSi _ hm; omega))
    have fR := e5.on (hu.block (B13 + 1) e5.lt (fun hm => by have := hSi _ hm; omega))
    refine ⟨hu.m4 hM5 (fun hm => by have := hSi _ hm; omega), ⟨vR.cell 16 _ rfl, vR.cell 17 _ rfl, vR.cell 18 _ rfl, vR.cell 19 _ rfl⟩, fR.cell 4 _ rfl, ⟨gR.cell 16 _ rfl, gR.cell 17 _ rfl, gR.cell 18 _ rfl, gR.cell 19 _ rfl⟩, eR.cell 4 _ rfl, mf4.grN hu (fun x hx hm => by have := hb4 x hx; have := hSi x hm; omega), fun u' k => ?_⟩
    have hg : GrB ([B13, B13 + 1] ++ blks (pk5 (.slice a0 l0 k0) (.slice a1 l1 k1) (.slice a2 l2 k2) (.slice a3 l3 k3) (.slice a4 l4 k4)) 4) y4 u' := ((jy4_5.mono (by simp)).trans (hu.mono (fun x hx => List.mem_append_right _ hx))).bl k.bl
    have := HM4.out _ u' hg (fun x hx => by
      rcases List.mem_append.1 hx with hx | hx
      · have : x = B13 ∨ x = B13 + 1 := by simpa using hx
        omega
      · have := hSi x hx
        omega)
    exact this
  have HL : Hid (∀ k, k < 5 → RndAt w.heap.size B B13 (some ⟨bb, off, none⟩) l cp r c n V5 k ((pk5 A0 A1 A2 A3 A4) k) ((pk5 (.slice a0 l0 k0) (.slice a1 l1 k1) (.slice a2 l2 k2) (.slice a3 l3 k3) (.slice a4 l4 k4)) k) (blks (pk5 (.slice a0 l0 k0) (.slice a1 l1 k1) (.slice a2 l2 k2) (.slice a3 l3 k3) (.slice a4 l4 k4)) k)) := by
    intro k hk
    match k, hk with
    | 0, _ => exact R0
    | 1, _ => exact R1
    | 2, _ => exact R2
    | 3, _ => exact R3
    | 4, _ => exact R4
  have HE : Hid (∀ u, GrB (blks (pk5 (.slice a0 l0 k0) (.slice a1 l1 k1) (.slice a2 l2 k2) (.slice a3 l3 k3) (.slice a4 l4 k4)) 5) V5 u → Bl w u ∧ M4 u w.heap.size (.int .i64 r) (.int .i64 c) (.int .i64 n) (.slice (some ⟨bb, off, none⟩) l cp) ∧ M4 u B (.int .i64 r) (.int .i64 c) (.int .i64 n) (.slice (some ⟨g, 0, none⟩) l cap) ∧ Own u g cap (L ++ [-71]) ∧ Sl u (.slice (some ⟨bb, off, none⟩) l cp) L) := fun u hu => by
    have hSi : ∀ x ∈ blks (pk5 (.slice a0 l0 k0) (.slice a1 l1 k1) (.slice a2 l2 k2) (.slice a3 l3 k3) (.slice a4 l4 k4)) 5, U0.heap.size ≤ x ∧ x < U5.heap.size := fun x hx => by
      rcases hS 5 (by omega) x hx with h | h
      · exact ⟨h.1, Nat.lt_of_lt_of_le h.2 (by show U4.heap.size ≤ _; omega)⟩
      · exact h.2
    have hsl := (hWf.grB hu (fun hm => by have := hSi _ hm; omega)).sl
    rw [hl] at hsl
    refine ⟨?_, hu.m4 hM5 (fun hm => by have := hSi _ hm; omega), hu.m4 hF5 (fun hm => by have := hSi _ hm; omega), hO5.grB hu (fun hm => by have := hSi _ hm; omega), hsl⟩
    exact (((hBY.grBn H5 (by simp; omega)).trans kU5V).grBn I5 (by simp; omega)).grBn hu (fun x hx => by have := hSi x hx; omega)
  have hlL : L.length = l := hl
  clear hW hck oY hWY hBY hszX hs0 hglt hszw hl H0 H1 H2 H3 H4 H5 H6 H7 J0 J1 J2 J3 J4 hz0 hz1 hz2 hz3 hz4 hz7 mr0_1 mr0_2 mr1_2 mr0_3 mr1_3 mr2_3 mr0_4 mr1_4 mr2_4 mr3_4 mr0_5 mr1_5 mr2_5 mr3_5 mr4_5 G0 G1 G2 G3 G4 G5 E0 E1 E2 E3 E4 E5 hF hMY hW5 k6 hW6 k7 hWQ kV kU5V hWV hSB h8 hV0s hQs hU57 hbbV I0 I1 I2 I3 I4 I5 kd0 kd1 kd2 kd3 kd4 L0 L1 L2 L3 L4 hv0 hv1 hv2 hv3 hv4 jy0_1 jy0_2 jy1_2 jy0_3 jy1_3 jy2_3 jy0_4 jy1_4 jy2_4 jy3_4 jy0_5 jy1_5 jy2_5 jy3_5 jy4_5 HM0 HM1 HM2 HM3 HM4 g0 g1 g2 g3 g4 g5 e0 e1 e2 e3 e4 e5 GV EV hM5 hF5 hO5 hWf hu01 hu12 hu23 hu34 hu45 hu5V hb0 hb1 hb2 hb3 hb4 mf0 mf1 mf2 mf3 mf4 ht0 ht1 ht2 ht3 ht4 hS R0 R1 R2 R3 R4
  generalize (pk5 A0 A1 A2 A3 A4) = AF at *
  generalize ((pk5 (.slice a0 l0 k0) (.slice a1 l1 k1) (.slice a2 l2 k2) (.slice a3 l3 k3) (.slice a4 l4 k4)) : Nat → Value) = SF at *
  have hi0 : GrB (blks SF 0) V5 V5 := GrB.refl _ _
  go_wp2_with fail
  go_loopw [16, 17, 18] (fun iv v17 v18 wr => ∃ k : Nat, k ≤ 5 ∧ iv = .int .i64 k ∧ GrB (blks SF k) V5 wr) (fun iv _ _ _ => 5 - (intOf iv).toNat)
  case atStart => exact ⟨0, Nat.zero_le _, rfl, hi0⟩
  case round =>
    obtain ⟨k, hk, rfl, hg⟩ := hrel
    by_cases hk5 : k < 5
    · obtain ⟨vr, vc, vn, va, vl, vk, fe, sa, sl, sk, H, hsk, hAl, hall⟩ := HL.out k hk5
      clear HL HE
      generalize AF k = Ak at *
      have hall' : Hid _ := hall
      have HS1 : Hid (∀ u, Kept wr u → Kept wr u ∧ (u.cell? ⟨w.heap.size, 0, none⟩ = some (.int .i64 r) ∧ u.cell? ⟨w.heap.size, 1, none⟩ = some (.int .i64 c) ∧ u.cell? ⟨w.heap.size, 2, none⟩ = some (.int .i64 n) ∧ u.cell? ⟨w.heap.size, 3, none⟩ = some (.slice (some ⟨bb, off, none⟩) l cp)) ∧ (u.cell? ⟨B13, k * 4, none⟩ = some (.int .i64 vr) ∧ u.cell? ⟨B13, k * 4 + 1, none⟩ = some (.int .i64 vc) ∧ u.cell? ⟨B13, k * 4 + 2, none⟩ = some (.int .i64 vn) ∧ u.cell? ⟨B13, k * 4 + 3, none⟩ = some (.slice va vl vk)) ∧ u.cell? ⟨B13 + 1, k, none⟩ = some (.int .i64 fe)) := fun u k' => by
        obtain ⟨⟨x0, x1, x2, x3⟩, h2, h3, -⟩ := hall'.out u (hg.bl k'.bl)
        exact ⟨k', ⟨x0, x1, x2, x3⟩, h2, h3⟩
      have KM : Hid (∀ u, Kept wr u → Calls Try.prog 39 #[.agg #[.int .i64 r, .int .i64 c, .int .i64 n, .slice (some ⟨bb, off, none⟩) l cp], .agg #[.int .i64 vr, .int .i64 vc, .int .i64 vn, .slice va vl vk], .int .i64 fe] u fun e w' => ∃ ta tn tc, e = .returned (.tuple #[.agg #[.int .i64 Ak.r, .int .i64 Ak.c, .int .i64 Ak.n, .slice ta tn tc], .int .i64 Ak.q]) ∧ Hid (MR u.heap.size w' (.slice ta tn tc) Ak.T) ∧ Kept wr w' ∧ Kept u w') := fun u k' => by
        have := (hall'.out wr hg).2.2.2.2.2.2 u k'
        unfold GivesK at this
        refine this.mono ?_
        rintro e w' ⟨s, rfl, h1, h2⟩
        obtain ⟨ta, tn, tc, rfl⟩ := h1.form
        exact ⟨ta, tn, tc, rfl, h1, k'.trans h2, h2⟩
      clear hall
      go_upto_region 28 with fail
      have kd := (Kept.refl wr).drew
      go_cut [17, 18] from 128 to 160 (fun t17 t18 wx => ∃ B17 ta tn tc, t17 = .pointer (some ⟨B17, 0, none⟩) ∧ t18 = .int .i64 Ak.q ∧ wr.heap.size ≤ B17 ∧ M4 wx B17 (.int .i64 Ak.r) (.int .i64 Ak.c) (.int .i64 Ak.n) (.slice ta tn tc) ∧ MR wr.heap.size wx (.slice ta tn tc) Ak.T ∧ Kept wr wx)
      case first =>
        clear hall'
        go_region_held (fun u => Kept wr u ∧ (u.cell? ⟨w.heap.size, 0, none⟩ = some (.int .i64 r) ∧ u.cell? ⟨w.heap.size, 1, none⟩ = some (.int .i64 c) ∧ u.cell? ⟨w.heap.size, 2, none⟩ = some (.int .i64 n) ∧ u.cell? ⟨w.heap.size, 3, none⟩ = some (.slice (some ⟨bb, off, none⟩) l cp)) ∧ (u.cell? ⟨B13, k * 4, none⟩ = some (.int .i64 vr) ∧ u.cell? ⟨B13, k * 4 + 1, none⟩ = some (.int .i64 vc) ∧ u.cell? ⟨B13, k * 4 + 2, none⟩ = some (.int .i64 vn) ∧ u.cell? ⟨B13, k * 4 + 3, none⟩ = some (.slice va vl vk)) ∧ u.cell? ⟨B13 + 1, k, none⟩ = some (.int .i64 fe)) (first | assumption | exact HS1.out _ kd | exact HS1.out _ (by assumption) | exact HS1.out _ (by repeat' first | assumption | exact Kept.alloc (by assumption) _ _ | (refine Kept.setCell ?_ ?_ _) | exact Nat.le_refl _ | (simp; omega))) (first | (go_at_call 39; refine (KM.out _ (by first | assumption | exact Kept.alloc (by assumption) _ _)).mono ?_; rintro e w9 ⟨ta, tn, tc, rfl, hmr, k9, j9⟩; have z9 := k9.below.size; first | (have qz := zq_newd j9; obtain ⟨⟨q90, q91, q92, q93⟩, q9f⟩ := qz) | skip))
        all_goals go_wp2_with fail
        all_goals go_meet
        all_goals first
          | exact ⟨_, ta, tn, tc, rfl, rfl, tw_put (by simp) k9 ⟨q90, q91, q92, q93⟩ hmr.out⟩
          | exact ⟨_, ta, tn, tc, rfl, rfl, tw_new (by simp) k9 hmr.out⟩
      case rest =>
      obtain ⟨B17, ta, tn, tc, rfl, rfl, hB17, hM17, hmr, kc⟩ := hcut
      have HS2 : Hid (∀ u, Kept wc u → Kept wc u ∧ (u.cell? ⟨B + 1, k * 4, none⟩ = some (.int .i64 Ak.r) ∧ u.cell? ⟨B + 1, k * 4 + 1, none⟩ = some (.int .i64 Ak.c) ∧ u.cell? ⟨B + 1, k * 4 + 2, none⟩ = some (.int .i64 Ak.n) ∧ u.cell? ⟨B + 1, k * 4 + 3, none⟩ = some (.slice sa sl sk)) ∧ u.cell? ⟨B + 2, k, none⟩ = some (.int .i64 Ak.q) ∧ (u.cell? ⟨B17, 0, none⟩ = some (.int .i64 Ak.r) ∧ u.cell? ⟨B17, 1, none⟩ = some (.int .i64 Ak.c) ∧ u.cell? ⟨B17, 2, none⟩ = some (.int .i64 Ak.n) ∧ u.cell? ⟨B17, 3, none⟩ = some (.slice ta tn tc))) := fun u k' => by
        obtain ⟨x0, x1, x2, x3⟩ := hM17.bl k'.bl
        obtain ⟨-, -, -, h4, h5, -⟩ := hall'.out u ((hg.bl kc.bl).bl k'.bl)
        exact ⟨k', h4, h5, ⟨x0, x1, x2, x3⟩⟩
      have KE : Hid (∀ u, Kept wc u → Calls Try.prog 21 #[.agg #[.int .i64 Ak.r, .int .i64 Ak.c, .int .i64 Ak.n, .slice sa sl sk], .agg #[.int .i64 Ak.r, .int .i64 Ak.c, .int .i64 Ak.n, .slice ta tn tc]] u fun e w' => e = .returned (.bool true) ∧ Kept wc w') := fun u k' => by
        have hm := (hall'.out u ((hg.bl kc.bl).bl k'.bl)).2.2.2.2.2.1
        rw [hsk] at hm
        refine (exact_mr Ak.r Ak.c Ak.n Ak.T hAl _ _ _ _ u hm (hmr.kept k')).mono ?_
        rintro e w' ⟨rfl, k2⟩
        exact ⟨rfl, k'.trans k2⟩
      have KS : Hid (∀ u, Kept wc u → Calls Try.prog 26 #[.agg #[.int .i64 Ak.r, .int .i64 Ak.c, .int .i64 Ak.n, .slice sa sl sk]] u fun e w' => ∃ v, e = .returned v ∧ GrB (blks SF (k + 1)) V5 w') := fun u k' => by
        have hm := (hall'.out u ((hg.bl kc.bl).bl k'.bl)).2.2.2.2.2.1
        rw [hsk] at hm
        refine (spoil_mr Ak.r Ak.c Ak.n Ak.T hAl _ _ u hm).mono ?_
        rintro e w' ⟨⟨v, rfl⟩, k2⟩
        refine ⟨v, rfl, (((hg.bl kc.bl).bl k'.bl).mono (fun x hx => List.mem_append_left _ hx)).trans (k2.mono (fun x hx => ?_))⟩
        show x ∈ blks SF k ++ blkS (SF k)
        rw [hsk]
        exact List.mem_append_right _ hx
      clear kd HS1 KM hall' hsk hmr hM17 hg kc
      generalize Ak.q = qq at *
      generalize Ak.r = q1 at *
      generalize Ak.c = q2 at *
      generalize Ak.n = q3 at *
      have hqq : (qq != qq) = false := by simp
      have hqe : (qq == qq) = true := by simp
      have z1 : IntKind.i64.wrap ((k : Int) + 1) = (k : Int) + 1 := by rw [wrap_i64]; omega
      have kd := (Kept.refl wc).drew
      go_upto_region 29 with fail
      go_cut [156] from 128 to 160 (fun t156 wx => t156 = .bool false ∧ Kept wc wx)
      case first =>
        clear KS
        go_region_held (fun u => Kept wc u ∧ (u.cell? ⟨B + 1, k * 4, none⟩ = some (.int .i64 q1) ∧ u.cell? ⟨B + 1, k * 4 + 1, none⟩ = some (.int .i64 q2) ∧ u.cell? ⟨B + 1, k * 4 + 2, none⟩ = some (.int .i64 q3) ∧ u.cell? ⟨B + 1, k * 4 + 3, none⟩ = some (.slice sa sl sk)) ∧ u.cell? ⟨B + 2, k, none⟩ = some (.int .i64 qq) ∧ (u.cell? ⟨B17, 0, none⟩ = some (.int .i64 q1) ∧ u.cell? ⟨B17, 1, none⟩ = some (.int .i64 q2) ∧ u.cell? ⟨B17, 2, none⟩ = some (.int .i64 q3) ∧ u.cell? ⟨B17, 3, none⟩ = some (.slice ta tn tc))) (first | assumption | exact HS2.out _ kd | exact HS2.out _ (by assumption)) (first | (go_at_call 16; refine (KN.out _ _).mono ?_; rintro e w11 ⟨rfl, rfl⟩) | (go_at_call 21; refine (KE.out _ (by assumption)).mono ?_; rintro e w8 ⟨rfl, k8⟩))
        all_goals go_wp2_with fail
        all_goals go_meet
        all_goals exact ⟨by simp, by assumption⟩
      case rest =>
      obtain ⟨rfl, kw⟩ := hcut
      obtain ⟨-, ⟨p0, p1, p2, p3⟩, -, -⟩ := HS2.out _ kw
      clear HS2 KE kd KN
      go_wp2_with (first | (go_at_call 26; refine (KS.out _ kw).mono ?_; rintro e wz ⟨v, rfl, hgz⟩))
      all_goals go_roundw
      case measure => simp [intOf]; omega
      case rel =>
        exact ⟨k + 1, by omega, by go_num, hgz⟩
    · obtain rfl : k = 5 := by omega
      obtain ⟨hBw, ⟨m0, m1, m2, m3⟩, ⟨f0, f1, f2, f3⟩, ho, hsl⟩ := HE.out _ hg
      rw [← hlL] at hsl
      have KY := stays_true r c n L (by omega) g cap (some ⟨bb, off, none⟩) cp wr ho hsl
      rw [hlL] at KY
      clear HL HE KN hsl ho hlL
      go_wp2_with (first | (go_at_call 14; refine KY.mono ?_; rintro e wz ⟨rfl, kz⟩))
      go_ret
      exact ⟨rfl, hBw.trans kz.bl⟩
end Go.Proofs.Ytcldcjchfagcoaa
