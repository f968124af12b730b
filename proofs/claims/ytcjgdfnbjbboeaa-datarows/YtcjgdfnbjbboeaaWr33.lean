/- Check of package data. -/
import Derived.Test.YtcjgdfnbjbboeaaWr31
import Derived.Test.YtcjgdfnbjbboeaaWr32
namespace Go.Proofs.Ytcjgdfnbjbboeaa
open Go.ChangeShapes Go.WideShapes Go.ChangeAt Go.RowKit Go.Shelf
set_option linter.unusedVariables false
set_option linter.unusedSimpArgs false
attribute [local go_sem] Oper.semAt_some

/-- A function that does not panic. -/
def nqPost (Q : Exit → Act → World → Prop) : Exit → Act → World → Prop
  | .panic _, _, _ => False
  | e, a, w => Q e a w
theorem nqPost_imp {Q : Exit → Act → World → Prop} : ∀ e a w, nqPost Q e a w → Q e a w := by
  intro e a w h
  cases e <;> first | exact h | exact h.elim

theorem Kept.othersq {W u : World} (h : Kept W u) : KeepsOthers W u := ⟨h.below.size, fun k o hk ho => by
  have hl : k < W.heap.size := (Array.getElem?_eq_some_iff.1 hk).1
  exact (h.below.block k hl).trans hk⟩
theorem Kept.grn {W u : World} (h : Kept W u) : W.grownBy u none := ⟨h.below.os, h.below.tape, h.below.output, h.below.size, fun k hk _ => h.below.block k hk⟩
theorem grn_trans {A B C : World} (h : A.grownBy B none) (k : B.grownBy C none) : A.grownBy C none := ⟨k.os.trans h.os, k.tape.trans h.tape, k.output.trans h.output, Nat.le_trans h.size k.size, fun i hi hne => (k.block i (Nat.lt_of_lt_of_le hi h.size) hne).trans (h.block i hi hne)⟩
theorem grn_abid {A W W' : World} {row : Option Nat} (h : A.grownBy W none) (hg : W.grownBy W' row) (hr : ∀ r, row = some r → A.heap.size ≤ r ∧ ∃ o : Obj, W.heap[r]? = some o ∧ o.isCells = false) : A.grownBy W' none :=
  ⟨hg.os.trans h.os, hg.tape.trans h.tape, hg.output.trans h.output, Nat.le_trans h.size hg.size, fun i hi hne => (hg.block i (Nat.lt_of_lt_of_le hi h.size) (fun e => by have := (hr i e.symm).1; omega)).trans (h.block i hi hne)⟩
theorem grn_below {w A B : World} (h : Below w.heap.size w A) (k : A.grownBy B none) : Below w.heap.size w B := h.grown k h.size (fun i e => by cases e)
/-- All blocks but two lie as they lay. -/
structure G2 (g1 g2 : Nat) (Z W : World) : Prop where
  os : W.os = Z.os
  tape : W.tape = Z.tape
  output : W.output = Z.output
  size : Z.heap.size ≤ W.heap.size
  block : ∀ i, i < Z.heap.size → i ≠ g1 → i ≠ g2 → W.heap[i]? = Z.heap[i]?
theorem G2.abid {g1 g2 : Nat} {A W W' : World} {row : Option Nat} (h : G2 g1 g2 A W) (hg : W.grownBy W' row) (hr : ∀ r, row = some r → A.heap.size ≤ r ∧ ∃ o : Obj, W.heap[r]? = some o ∧ o.isCells = false) : G2 g1 g2 A W' :=
  ⟨hg.os.trans h.os, hg.tape.trans h.tape, hg.output.trans h.output, Nat.le_trans h.size hg.size, fun i hi h1 h2 => (hg.block i (Nat.lt_of_lt_of_le hi h.size) (fun e => by have := (hr i e.symm).1; omega)).trans (h.block i hi h1 h2)⟩
theorem G2.below {g1 g2 : Nat} {w Z W : World} (h : Below w.heap.size w Z) (k : G2 g1 g2 Z W) (h1 : w.heap.size ≤ g1) (h2 : w.heap.size ≤ g2) : Below w.heap.size w W :=
  ⟨k.os.trans h.os, k.tape.trans h.tape, k.output.trans h.output, Nat.le_trans h.size k.size, fun i hi => (k.block i (Nat.lt_of_lt_of_le hi h.size) (by omega) (by omega)).trans (h.block i hi)⟩
theorem G2.two {g1 g2 : Nat} {Z U : World} (h : Z.grownBy U none) (v v' : Value) : G2 g1 g2 Z ((U.setCell ⟨g1, 0, none⟩ v).setCell ⟨g2, 0, none⟩ v') :=
  ⟨h.os, h.tape, h.output, by simpa using h.size, fun i hi h1 h2 => ((Below.heap_setCell _ ⟨g2, 0, none⟩ v' i (fun e => h2 e)).trans (Below.heap_setCell _ ⟨g1, 0, none⟩ v i (fun e => h1 e))).trans (h.block i hi (by simp))⟩

theorem bq_of {W : World} {p : Nat} {vs : List Value} {t : TypeId} (h : W.heap[p]? = some (.cells vs.toArray t (0, 0))) : Bq W p vs :=
  ⟨fun i v hv => by rw [cell_of_row W p i vs.toArray t (0, 0) h]; simpa using hv, fun o => by simp [World.frozen?, h], (Array.getElem?_eq_some_iff.1 h).1⟩
theorem boxed_on {W W' : World} {B : Nat} {t : TypeId} {v : Value} (h : Boxed W B t v) (k : W.grownBy W' none) : Boxed W' B t v := h.kept k (by simp)

/-- the error of a row -/
def rwst (M N : List Int) (C C' : Nat) (wd : Int) (x : Nat) : Int := e2 (stp wd (bpt M (x * C) C) 0).2 (stp wd (bpt N (x * C') C') 0).2
/-- what Check answers: the first row that has an error -/
def Ans (R : Nat) (st : Nat → Int) (a e : Int) : Prop := (∃ k, k < R ∧ (∀ j, j < k → st j = 0) ∧ st k ≠ 0 ∧ a = (k : Int) ∧ e = st k) ∨ ((∀ j, j < R → st j = 0) ∧ a = 0 ∧ e = 0)
theorem Ans.uniq {R : Nat} {st : Nat → Int} {a e a' e' : Int} (h : Ans R st a e) (h' : Ans R st a' e') : a = a' ∧ e = e' := by
  rcases h with ⟨k, h1, h2, h3, rfl, rfl⟩ | ⟨h1, rfl, rfl⟩
  · rcases h' with ⟨k', g1, g2, g3, rfl, rfl⟩ | ⟨g1, rfl, rfl⟩
    · rcases Nat.lt_trichotomy k k' with h | h | h
      · exact absurd (g2 k h) h3
      · subst h; exact ⟨rfl, rfl⟩
      · exact absurd (h2 k' h) g3
    · exact absurd (g1 k h1) h3
  · rcases h' with ⟨k', g1, g2, g3, rfl, rfl⟩ | ⟨g1, rfl, rfl⟩
    · exact absurd (h1 k' g1) g3
    · exact ⟨rfl, rfl⟩

set_option maxRecDepth 100000 in
set_option maxHeartbeats 8000000 in
theorem dcheck_ok (R C C' : Nat) (wd : Int) (M N : List Int) (hR : 0 < R) (hC : 0 < C) (hC' : 0 < C') (hRC : R * C ≤ 4096) (hRC' : R * C' ≤ 4096) (hM : M.length = R * C) (hN : N.length = R * C') (hF : ckF R C wd M R C' wd N = 0)
    (b off cap b' off' cap' : Nat) (w : World) (hcap : R * C ≤ cap) (hcap' : R * C' ≤ cap') (hX : Sl w (.slice (some ⟨b, off, none⟩) M.length cap) M) (hY : Sl w (.slice (some ⟨b', off', none⟩) N.length cap') N)
    (KF : Hid (∀ (k : Nat) (u : World), k < R → Below w.heap.size w u → Calls Try.prog 98 #[.agg #[.int .i64 1, .int .i64 C, .int .i64 wd, .slice (some ⟨b, off + k * C, none⟩) C C]] u fun e w' => ∃ q, e = .returned (.tuple #[.int .i64 q, .int .i64 (stp wd (bpt M (k * C) C) 0).2]) ∧ Kept u w'))
    (KF' : Hid (∀ (k : Nat) (u : World), k < R → Below w.heap.size w u → Calls Try.prog 98 #[.agg #[.int .i64 1, .int .i64 C', .int .i64 wd, .slice (some ⟨b', off' + k * C', none⟩) C' C']] u fun e w' => ∃ q, e = .returned (.tuple #[.int .i64 q, .int .i64 (stp wd (bpt N (k * C') C') 0).2]) ∧ Kept u w')) :
    Calls Try.prog 30 #[sv8 R C wd (.slice (some ⟨b, off, none⟩) (R * C) cap) R C' wd (.slice (some ⟨b', off', none⟩) (R * C') cap')] w fun e w' => ∃ a q, e = .returned (.tuple #[.int .i64 a, .int .i64 q]) ∧ Ans R (rwst M N C C' wd) a q ∧ Below w.heap.size w w' := by
  obtain ⟨X, hXw⟩ : ∃ X, X = ((w.alloc (.cells (sl8 R C wd (.slice (some ⟨b, off, none⟩) (R * C) cap) R C' wd (.slice (some ⟨b', off', none⟩) (R * C') cap')).toArray 26)).alloc (.cells #[.int .i64 0] 3)).alloc (.cells #[.int .i64 0] 41) := ⟨_, rfl⟩
  have hK : Kept w X := by rw [hXw]; exact (((Kept.refl w).alloc _ _).alloc _ _).alloc _ _
  have hB : Bq X w.heap.size (sl8 R C wd (.slice (some ⟨b, off, none⟩) (R * C) cap) R C' wd (.slice (some ⟨b', off', none⟩) (R * C') cap')) := by rw [hXw]; exact ((Bq.new w _ 26).kept ((Kept.refl _).alloc _ _)).kept ((Kept.refl _).alloc _ _)
  have hXs : X.heap.size = w.heap.size + 3 := by rw [hXw]; simp
  have hx1 : Boxed X (w.heap.size + 1) 3 (.int .i64 0) := by
    have := (Boxed.new (w.alloc (.cells (sl8 R C wd (.slice (some ⟨b, off, none⟩) (R * C) cap) R C' wd (.slice (some ⟨b', off', none⟩) (R * C') cap')).toArray 26)) 3 (.int .i64 0)).alloc (.cells #[.int .i64 0] 41)
    rw [hXw]; simpa using this
  have hx2 : Boxed X (w.heap.size + 2) 41 (.int .i64 0) := by
    have := Boxed.new ((w.alloc (.cells (sl8 R C wd (.slice (some ⟨b, off, none⟩) (R * C) cap) R C' wd (.slice (some ⟨b', off', none⟩) (R * C') cap')).toArray 26)).alloc (.cells #[.int .i64 0] 3)) 41 (.int .i64 0)
    rw [hXw]; simpa using this
  have KC : Hid (∀ u, Kept w u → Calls Try.prog 70 #[sv8 R C wd (.slice (some ⟨b, off, none⟩) (R * C) cap) R C' wd (.slice (some ⟨b', off', none⟩) (R * C') cap')] u fun e w' => e = .returned (.int .i64 0) ∧ Kept u w') := fun u k => by
    have := checkForm_any R C wd (some ⟨b, off, none⟩) cap M R C' wd (some ⟨b', off', none⟩) cap' N u (hX.kept k) (hY.kept k)
    rw [hF, hM, hN] at this
    exact this
  have KO : Hid (∀ u : World, Calls Try.prog 71 #[sv8 R C wd (.slice (some ⟨b, off, none⟩) (R * C) cap) R C' wd (.slice (some ⟨b', off', none⟩) (R * C') cap')] u fun e w' => e = .returned (.func (.func 97) #[] #[.pointer (some ⟨u.heap.size, 0, none⟩)]) ∧ w' = u.alloc (.cells #[.int .i64 R, .int .i64 C, .int .i64 wd, .slice (some ⟨b, off, none⟩) (R * C) cap, .int .i64 R, .int .i64 C', .int .i64 wd, .slice (some ⟨b', off', none⟩) (R * C') cap'] 26)) := fun u => drowsOf_any _ _ _ _ _ _ _ _ u
  have HRS : Hid (∀ (Z : World) (B : Nat), Bq Z B (sl8 R C wd (.slice (some ⟨b, off, none⟩) (R * C) cap) R C' wd (.slice (some ⟨b', off', none⟩) (R * C') cap')) → SeqStopsK Fence.wide 2 Try.prog 97 #[.pointer (some ⟨B, 0, none⟩)] (fun x : Fin R => rowS b off C b' off' C' wd x.1) (fun W W' => W'.heap[B]? = W.heap[B]?) (fun ys => ys = List.finRange R) (fun pre => ∃ k hk, pre = uptoF R (k + 1) hk) R Z) := fun Z B h => drows_stops 2 (by decide) B R C C' wd b off cap b' off' cap' hC (by omega) hcap hC' (by omega) hcap' Z h
  obtain ⟨st, hst⟩ : ∃ st, st = rwst M N C C' wd := ⟨_, rfl⟩
  have KA : Hid (∀ (x : Fin R) (u : World) (p : Nat), Below w.heap.size w u → Bq u p (sl8 1 C wd (.slice (some ⟨b, off + x.1 * C, none⟩) C C) 1 C' wd (.slice (some ⟨b', off' + x.1 * C', none⟩) C' C')) → Calls Try.prog 72 #[.slice (some ⟨p, 0, none⟩) 2 2] u fun e w' => e = .returned (.int .i64 (st x.1)) ∧ Kept u w') := fun x u p hu hp => by
    rw [hst]
    exact allFinite_two p 1 C wd 1 C' wd _ _ _ _ ⟨_, _, _, rfl⟩ ⟨_, _, _, rfl⟩ u hp (fun u' k => KF.out x.1 u' x.2 (grn_below hu k.grn)) (fun u' k => KF'.out x.1 u' x.2 (grn_below hu k.grn))
  rw [← hst]
  clear KF KF' hst
  clear hX hY hF hM hN
  generalize R * C = rc at *
  generalize R * C' = rc' at *
  refine (callsIn_wide (n := 3)).1 ?_
  refine callsIn_of_wp_marks Try.func30 rfl trivial ?_ rfl
  rw [wpIn_wide]
  refine Code.wp_mono nqPost_imp ?_
  simp only [Try.ntmps30, List.size_toArray, List.length_cons, List.length_nil, Nat.reduceAdd, Nat.reduceSub, Array.replicate_succ, Array.replicate_zero, List.push_toArray, List.append_toArray, List.nil_append, List.cons_append]
  go_upto_region 1 with fail
  rw [← hXw]
  clear hXw
  have c0 := hB.c 0 _ rfl
  have c1 := hB.c 1 _ rfl
  have c2 := hB.c 2 _ rfl
  have c3 := hB.c 3 _ rfl
  have c4 := hB.c 4 _ rfl
  have c5 := hB.c 5 _ rfl
  have c6 := hB.c 6 _ rfl
  have c7 := hB.c 7 _ rfl
  go_upto_region 2 with (first | (go_at_call 70; refine (KC.out _ hK).mono ?_; rintro e w1 ⟨rfl, k1⟩))
  clear c0 c1 c2 c3 c4 c5 c6 c7 KC
  have hB1 := hB.kept k1
  have hy1 := boxed_on hx1 k1.grn
  have hy2 := boxed_on hx2 k1.grn
  have hK1 := hK.trans k1
  have hs1 : w.heap.size + 3 ≤ w1.heap.size := by rw [← hXs]; exact k1.below.size
  clear hB hx1 hx2 hK k1 hXs
  have c0 := hB1.c 0 _ rfl
  have c1 := hB1.c 1 _ rfl
  have c2 := hB1.c 2 _ rfl
  have c3 := hB1.c 3 _ rfl
  have c4 := hB1.c 4 _ rfl
  have c5 := hB1.c 5 _ rfl
  have c6 := hB1.c 6 _ rfl
  have c7 := hB1.c 7 _ rfl
  go_wp2_with (first | (go_at_call 71; refine (KO.out _).mono ?_; rintro e w2 ⟨rfl, rfl⟩))
  clear c0 c1 c2 c3 c4 c5 c6 c7
  have hBZ := Bq.new w1 (sl8 R C wd (.slice (some ⟨b, off, none⟩) rc cap) R C' wd (.slice (some ⟨b', off', none⟩) rc' cap')) 26
  have kZ : Kept w1 (w1.alloc (.cells #[.int .i64 R, .int .i64 C, .int .i64 wd, .slice (some ⟨b, off, none⟩) rc cap, .int .i64 R, .int .i64 C', .int .i64 wd, .slice (some ⟨b', off', none⟩) rc' cap'] 26)) := (Kept.refl w1).alloc _ _
  have hZs0 : (w1.alloc (.cells #[.int .i64 R, .int .i64 C, .int .i64 wd, .slice (some ⟨b, off, none⟩) rc cap, .int .i64 R, .int .i64 C', .int .i64 wd, .slice (some ⟨b', off', none⟩) rc' cap'] 26)).heap.size = w1.heap.size + 1 := by simp
  obtain ⟨Z, hZ⟩ : ∃ Z, Z = w1.alloc (.cells #[.int .i64 R, .int .i64 C, .int .i64 wd, .slice (some ⟨b, off, none⟩) rc cap, .int .i64 R, .int .i64 C', .int .i64 wd, .slice (some ⟨b', off', none⟩) rc' cap'] 26) := ⟨_, rfl⟩
  rw [← hZ] at kZ hZs0 ⊢
  rw [show w1.alloc (.cells (sl8 R C wd (.slice (some ⟨b, off, none⟩) rc cap) R C' wd (.slice (some ⟨b', off', none⟩) rc' cap')).toArray 26) = Z from hZ.symm] at hBZ
  clear hZ
  obtain ⟨B, hBe⟩ : ∃ B, B = w1.heap.size := ⟨_, rfl⟩
  rw [← hBe] at hBZ hZs0 hs1 ⊢
  have hKZ := hK1.trans kZ
  have hz1 := boxed_on hy1 kZ.grn
  have hz2 := boxed_on hy2 kZ.grn
  have RS := HRS.out Z B hBZ
  clear hBe kZ hK1 hy1 hy2 hB1 HRS KO
  rw [← wpIn_wide (n := 3)]
  refine wpIn_rangeFunc_ownH rfl (by decide) (gf := 97) (lb := #[.pointer (some ⟨B, 0, none⟩)]) rfl trivial (enters_of Try.func97 (by kernel_rfl) rfl) RS (fun h k => k.trans h) (fun W l o o' hl _ _ _ => World.putObj_heap_other (by omega)) (Below.refl _ _) (fun _ => rfl)
    (fun pre W => (∀ y ∈ pre, st y.1 = 0) ∧ Z.grownBy W none)
    (fun c xs W => c = .ret ∧ ∃ (pre : List (Fin R)) (x : Fin R), xs = pre ++ [x] ∧ (∀ y ∈ pre, st y.1 = 0) ∧ st x.1 ≠ 0 ∧ G2 (w.heap.size + 1) (w.heap.size + 2) Z W ∧ W.heap[w.heap.size + 1]? = some (.cells #[.int .i64 (x.1 : Int)] 3 (0, 0)) ∧ W.heap[w.heap.size + 2]? = some (.cells #[.int .i64 (st x.1)] 41 (0, 0)))
    (fun s A B' row hs hg hr => ⟨hs.1, grn_abid hs.2 hg hr⟩)
    (fun c s A B' row hs hg hr => by
      obtain ⟨h1, pre, x, h2, h3, h4, h5, h6, h7⟩ := hs
      exact ⟨h1, pre, x, h2, h3, h4, h5.abid hg hr, abid_block hg hr h6 rfl, abid_block hg hr h7 rfl⟩)
    ⟨fun y hy => (by cases hy), World.grownBy.refl _ _⟩
    (fun x a' W => ∃ p, W.heap[p]? = some (.cells (sl8 1 C wd (.slice (some ⟨b, off + x.1 * C, none⟩) C C) 1 C' wd (.slice (some ⟨b', off' + x.1 * C', none⟩) C' C')).toArray 26 (0, 0)) ∧ a' = { tmps := #[sv8 R C wd (.slice (some ⟨b, off, none⟩) rc cap) R C' wd (.slice (some ⟨b', off', none⟩) rc' cap'), .pointer (some ⟨w.heap.size, 0, none⟩), .pointer (some ⟨w.heap.size + 1, 0, none⟩), .pointer (some ⟨w.heap.size + 1 + 1, 0, none⟩), .int .i64 0, .int .i64 (x.1 : Int), .pointer (some ⟨p, 0, none⟩), undef, sv8 R C wd (.slice (some ⟨b, off, none⟩) rc cap) R C' wd (.slice (some ⟨b', off', none⟩) rc' cap'), .int .i64 0, .int .i64 0, .bool false, undef, sv8 R C wd (.slice (some ⟨b, off, none⟩) rc cap) R C' wd (.slice (some ⟨b', off', none⟩) rc' cap'), .func (.func 97) #[] #[.pointer (some ⟨B, 0, none⟩)], .int .i64 (x.1 : Int), sv8 1 C wd (.slice (some ⟨b, off + x.1 * C, none⟩) C C) 1 C' wd (.slice (some ⟨b', off' + x.1 * C', none⟩) C' C'), undef, undef, undef, undef, undef, undef, undef, undef, undef, undef], defers := [] })
    (fun x a' s A B' row hs hg hr => by
      obtain ⟨p, h1, h2⟩ := hs
      exact ⟨p, abid_block hg hr h1 rfl, h2⟩) ?assign ?body ?done ?stop
  case assign =>
    intro l pre x W K hI hK
    have hBl : B < W.heap.size := by have := hI.2.size; omega
    gi_wp2
    exact hK _ _ ((KeepsOthers.alloc _ _).from _) (Below.heap_alloc W _ B hBl) ⟨hI.1, grn_trans hI.2 ((Kept.refl W).alloc _ _).grn⟩ ⟨W.heap.size, heap_alloc_new W _, rfl⟩
  case body =>
    rintro l pre x a' W hl hrec ⟨hpre, hgr⟩ ⟨p, hp, rfl⟩ hlt
    have hBl : B < W.heap.size := by have := hgr.size; omega
    have hq := bq_of hp
    have c0 := hq.c 0 _ rfl
    have c1 := hq.c 1 _ rfl
    have c2 := hq.c 2 _ rfl
    have c3 := hq.c 3 _ rfl
    have c4 := hq.c 4 _ rfl
    have c5 := hq.c 5 _ rfl
    have c6 := hq.c 6 _ rfl
    have c7 := hq.c 7 _ rfl
    have hA := Bq.new W (sl8 1 C wd (.slice (some ⟨b, off + x.1 * C, none⟩) C C) 1 C' wd (.slice (some ⟨b', off' + x.1 * C', none⟩) C' C')) 24
    have kA : Kept W (W.alloc (.cells (sl8 1 C wd (.slice (some ⟨b, off + x.1 * C, none⟩) C C) 1 C' wd (.slice (some ⟨b', off' + x.1 * C', none⟩) C' C')).toArray 24)) := (Kept.refl W).alloc _ _
    have K2 := KA.out x _ _ (grn_below hKZ.below (grn_trans hgr kA.grn)) hA
    clear hq hp hA
    by_cases hE : st x.1 = 0
    · rw [hE] at K2
      gi_wp2_with (first | (refine ⟨trivial, ?_⟩; gi_at_call 72; refine (CallsIn.inRound l (callsIn_wide.2 K2)).mono ?_; rintro e w3 ⟨rfl, k3⟩))
      have k4 := kA.trans k3
      exact ⟨k4.othersq.from _, k4.below.block B hBl, fun y hy => (by
        rcases List.mem_append.1 hy with h | h
        · exact hpre y h
        · rw [List.mem_singleton.1 h]; exact hE), grn_trans hgr k4.grn⟩
    · obtain ⟨sx, hsx⟩ : ∃ sx, st x.1 = sx := ⟨_, rfl⟩
      rw [hsx] at K2 hE
      have HSX := hidq hsx
      clear hsx
      gi_wp2_with (first | (refine ⟨trivial, ?_⟩; gi_at_call 72; refine (CallsIn.inRound l (callsIn_wide.2 K2)).mono ?_; rintro e w3 ⟨rfl, k3⟩; have u1 := boxed_on hz1 (grn_trans hgr (kA.trans k3).grn); have u2 := boxed_on hz2 (grn_trans hgr (kA.trans k3).grn); have q1 := u1.cell; have q2 := u2.cell; have f1 := u1.frozen; have f2 := u2.frozen))
      have k4 := kA.trans k3
      refine ⟨(k4.othersq.trans ((KeepsOthers.setCell _ _ _).trans (KeepsOthers.setCell _ _ _))).from _, rfl, pre, x, rfl, hpre, by rw [HSX.out]; exact hE, G2.two (grn_trans hgr k4.grn) _ _, ?_, ?_⟩
      · exact (u1.set _).other (by omega) _
      · rw [HSX.out]
        exact ((u2.other (by omega) _).set _)
  case done =>
    rintro D xs W hD rfl ⟨hall, hG⟩ hK
    have b1 := boxed_on hz1 hG
    have b2 := boxed_on hz2 hG
    have q1 := b1.cell
    have q2 := b2.cell
    have f1 := b1.frozen
    have f2 := b2.frozen
    go_wp2_with fail
    have hg2 : G2 (w.heap.size + 1) (w.heap.size + 2) Z ((W.setCell ⟨w.heap.size + 1, 0, none⟩ (.int .i64 0)).setCell ⟨w.heap.size + 2, 0, none⟩ (.int .i64 0)) := G2.two hG _ _
    have hK5 := ((KeepsOthers.setCell W ⟨w.heap.size + 1, 0, none⟩ (.int .i64 0)).trans (KeepsOthers.setCell _ ⟨w.heap.size + 2, 0, none⟩ (.int .i64 0))).same D _ hK rfl
    have e1 : Boxed (((W.setCell ⟨w.heap.size + 1, 0, none⟩ (.int .i64 0)).setCell ⟨w.heap.size + 2, 0, none⟩ (.int .i64 0)).putObj D (.deferred none)) (w.heap.size + 1) 3 (.int .i64 0) := (World.putObj_heap_other (by omega)).trans ((b1.set _).other (by omega) _)
    have e2' : Boxed (((W.setCell ⟨w.heap.size + 1, 0, none⟩ (.int .i64 0)).setCell ⟨w.heap.size + 2, 0, none⟩ (.int .i64 0)).putObj D (.deferred none)) (w.heap.size + 2) 41 (.int .i64 0) := (World.putObj_heap_other (by omega)).trans ((b2.other (by omega) _).set _)
    have hB5 := (G2.below hKZ.below hg2 (by omega) (by omega)).trans (belowK_b (w := w) (Nat.le_refl _) _ D _ (.deferred none) (by have := hKZ.below.size; omega) hK5 rfl rfl)
    have p1 := e1.cell
    have p2 := e2'.cell
    refine ⟨by simp, .inl ⟨_, _, rfl, run_takeDeferred hK5, ?_⟩⟩
    exact ⟨.tuple #[.int .i64 0, .int .i64 0], by simp [results, Try.f30, go_sem, p1, p2], 0, 0, rfl, .inr ⟨fun j hj => hall ⟨j, hj⟩ (List.mem_finRange _), rfl, rfl⟩, hB5⟩
  case stop =>
    rintro D c pre W hD ⟨k, hk, rfl⟩ ⟨rfl, pre, x, hxs, hpre, hne, hG, h1, h2⟩ hK
    have hxk : pre = uptoF R k (by omega) ∧ x = ⟨k, hk⟩ := by
      rw [uptoF_succ] at hxs
      have := List.append_inj' hxs rfl
      exact ⟨this.1.symm, by simpa using this.2.symm⟩
    rw [wpIn_wide]
    go_wp2_with fail
    have e1 : Boxed (W.putObj D (.deferred none)) (w.heap.size + 1) 3 (.int .i64 (x.1 : Int)) := (World.putObj_heap_other (by omega)).trans h1
    have e2' : Boxed (W.putObj D (.deferred none)) (w.heap.size + 2) 41 (.int .i64 (st x.1)) := (World.putObj_heap_other (by omega)).trans h2
    have hB5 := (G2.below hKZ.below hG (by omega) (by omega)).trans (belowK_b (w := w) (Nat.le_refl _) _ D _ (.deferred none) (by have := hKZ.below.size; omega) hK rfl rfl)
    have p1 := e1.cell
    have p2 := e2'.cell
    refine ⟨by simp, .inl ⟨_, _, rfl, run_takeDeferred hK, ?_⟩⟩
    refine ⟨.tuple #[.int .i64 (x.1 : Int), .int .i64 (st x.1)], by simp [results, Try.f30, go_sem, p1, p2], _, _, rfl, .inl ⟨x.1, x.2, fun j hj => ?_, hne, rfl, rfl⟩, hB5⟩
    obtain ⟨rfl, rfl⟩ := hxk
    exact hpre ⟨j, by omega⟩ (by
      unfold uptoF
      exact List.mem_map.2 ⟨⟨j, hj⟩, List.mem_finRange _, rfl⟩)
end Go.Proofs.Ytcjgdfnbjbboeaa
