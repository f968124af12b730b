/- The rows of a matrix gone over: rowsOf and its function; Turn. -/
import Derived.Test.YtijmjnmimijfdabT2
import Derived.Test.YtijmjnmimijfdabT3
import Derived.RangeFuncNested
import Derived.RangeFuncBound
import Derived.RangeFuncCalls
import Derived.RangeFuncLeaves
import Derived.RangeFuncBox
import Derived.Shelf.Abstract
import Derived.Shelf.RegionOpen
import Derived.WalkKit
import Derived.OwnWalkIn
import Derived.TacticsInMore
import Derived.LoopNIn
import Derived.LoopIn
namespace Go.Proofs.Ytijmjnmimijfdab
open Go.ChangeShapes Go.WideShapes Go.ChangeAt Go.RowKit Go.Shelf
set_option linter.unusedVariables false
set_option linter.unusedSimpArgs false
attribute [local go_sem] Oper.semAt_some

theorem Kept.grownNone {a b : World} (h : Kept a b) : a.grownBy b none := ⟨h.below.os, h.below.tape, h.below.output, h.below.size, fun k hk _ => h.below.block k hk⟩

/-- What has come when k rounds are over. -/
def uptoF (R k : Nat) (hk : k ≤ R) : List (Fin R) := (List.finRange k).map (Fin.castLE hk)
theorem uptoF_length (R k : Nat) (hk : k ≤ R) : (uptoF R k hk).length = k := by simp [uptoF]
theorem uptoF_succ (R k : Nat) (hk : k + 1 ≤ R) : uptoF R (k + 1) hk = uptoF R k (by omega) ++ [⟨k, by omega⟩] := by
  simp only [uptoF, List.finRange_succ_last, List.map_append, List.map_map, List.map_cons, List.map_nil]
  rfl
theorem uptoF_all (R : Nat) : uptoF R R (Nat.le_refl _) = List.finRange R := by
  simp only [uptoF]
  have : (Fin.castLE (Nat.le_refl R)) = id := by funext x; rfl
  rw [this, List.map_id]

/-- A row, as it is handed to the loop. -/
abbrev rowV (b off C : Nat) (x : Nat) : Array Value := #[.int .i64 (x : Int), .slice (some ⟨b, off + x * C, none⟩) C C]

set_option maxRecDepth 100000 in
set_option maxHeartbeats 2000000 in
theorem rows_stops (n : Nat) (hn : 1 ≤ n) (B R C : Nat) (wd : Int) (b off cap : Nat) (hC : 0 < C) (hRC : R * C ≤ 100000) (hcap : R * C ≤ cap) (w : World) (hM : M4 w B (.int .i64 R) (.int .i64 C) (.int .i64 wd) (.slice (some ⟨b, off, none⟩) (R * C) cap)) :
    SeqStopsK Fence.wide n Try.prog 61 #[.pointer (some ⟨B, 0, none⟩)] (fun x : Fin R => rowV b off C x.1) (fun W W' => W'.heap[B]? = W.heap[B]?) (fun ys => ys = List.finRange R) (fun pre => True) R w := fun l J Jx W hW hJ hJx hY h0 => by
  have hMW : M4 W B (.int .i64 R) (.int .i64 C) (.int .i64 wd) (.slice (some ⟨b, off, none⟩) (R * C) cap) := hM.bl ⟨hW⟩
  have HM : Hid (∀ u : World, u.heap[B]? = W.heap[B]? → M4 u B (.int .i64 R) (.int .i64 C) (.int .i64 wd) (.slice (some ⟨b, off, none⟩) (R * C) cap)) := fun u hu => ⟨(World.cell?_of_block (w := W) (a := ⟨B, 0, none⟩) hu).trans hMW.c0, (World.cell?_of_block (w := W) (a := ⟨B, 1, none⟩) hu).trans hMW.c1, (World.cell?_of_block (w := W) (a := ⟨B, 2, none⟩) hu).trans hMW.c2, (World.cell?_of_block (w := W) (a := ⟨B, 3, none⟩) hu).trans hMW.c3⟩
  have KR : Hid (∀ (k : Nat) (u : World), k < R → Calls Try.prog 33 #[.agg #[.int .i64 R, .int .i64 C, .int .i64 wd, .slice (some ⟨b, off, none⟩) (R * C) cap], .int .i64 k] u fun e w' => e = .returned (.slice (some ⟨b, off + k * C, none⟩) C C) ∧ Kept u w') := fun k u hk => rowOf_any R C k wd hk hC hRC b off _ cap rfl hcap u
  have hR : R ≤ 100000 := Nat.le_trans (Nat.le_mul_of_pos_right R hC) hRC
  obtain ⟨m0, m1, m2, m3⟩ := hMW
  clear hM hRC hcap
  generalize R * C = rc at *
  refine callsIn_of_wp Try.func61 rfl trivial ?_ rfl
  simp only [Try.ntmps61, List.size_toArray, List.length_cons, List.length_nil, Nat.reduceAdd, Nat.reduceSub, Array.replicate_succ, Array.replicate_zero, List.push_toArray, List.append_toArray, List.nil_append, List.cons_append]
  gi_wp2
  gi_loopw [6] (fun iv wr => ∃ (k : Nat) (hk : k ≤ R), iv = .int .i64 k ∧ J (uptoF R k hk) wr ∧ wr.heap[B]? = W.heap[B]?) (fun iv _ => R - (intOf iv).toNat)
  case atStart => exact ⟨0, Nat.zero_le _, rfl, h0, rfl⟩
  case round =>
    obtain ⟨k, hk, rfl, hJs, hbk⟩ := hrel
    by_cases hlt : k < R
    · have KR2 : Hid (Calls Try.prog 33 #[.agg #[.int .i64 R, .int .i64 C, .int .i64 wd, .slice (some ⟨b, off, none⟩) rc cap], .int .i64 k] wr fun e w' => e = .returned (.slice (some ⟨b, off + k * C, none⟩) C C) ∧ YieldAt Fence.wide (n - 1) Try.prog l #[.int .i64 k, .slice (some ⟨b, off + k * C, none⟩) C C] w' fun e W' => (e = .returned (.bool true) ∧ J (uptoF R (k + 1) hlt) W' ∧ W'.heap[B]? = W.heap[B]?) ∨ (e = .returned (.bool false) ∧ ∃ pre, Jx pre W')) := by
        refine (KR.out k wr hlt).mono ?_
        rintro e w' ⟨rfl, kk⟩
        have hb' : w'.heap[B]? = W.heap[B]? := (kk.below.block B (HM.out wr hbk).lt).trans hbk
        refine ⟨rfl, ?_⟩
        have hJ' := hJ _ _ _ none hJs kk.grownNone (fun r e => by cases e)
        refine (hY _ ⟨k, hlt⟩ w' hJ' (by rw [uptoF_length]; exact hlt)).mono ?_
        rintro e W' (⟨rfl, hj, hkp⟩ | ⟨rfl, hj⟩)
        · exact .inl ⟨rfl, by rw [uptoF_succ]; exact hj, hkp.trans hb'⟩
        · exact .inr ⟨rfl, _, hj⟩
      obtain ⟨p0, p1, p2, p3⟩ := HM.out wr hbk
      have z1 : IntKind.i64.wrap ((k : Int) + 1) = (k : Int) + 1 := by rw [wrap_i64]; omega
      gi_wp2_with (first | (refine ⟨trivial, ?_⟩; gi_at_call 33; refine (callsIn_wide.2 KR2.out).mono ?_; rintro e w1 ⟨rfl, hY1⟩; obtain ⟨fn, tmps, assign, body, hy, hR⟩ := hY1))
      refine hR.mono ?_
      rintro e W3 (⟨rfl, hj3, hb3⟩ | ⟨rfl, pre3, hjx3⟩)
      · gi_wp2
        go_roundw
        case rel => exact ⟨k + 1, hlt, by go_num, hj3, hb3⟩
        case measure => simp [intOf]; omega
      · gi_wp2
        refine bodyPost_ret (results_none rfl _ _ _) rfl ?_
        exact ⟨⟨_, rfl⟩, .inr ⟨pre3, trivial, hjx3⟩⟩
    · obtain rfl : k = R := by omega
      gi_wp2
      go_end0
      exact ⟨⟨_, rfl⟩, .inl ⟨_, uptoF_all _, hJs⟩⟩

set_option maxHeartbeats 400000 in
theorem rowsOf_any (r c n : Int) (s : Value) (w : World) : Calls Try.prog 32 #[.agg #[.int .i64 r, .int .i64 c, .int .i64 n, s]] w fun e w' => e = .returned (.func (.func 61) #[] #[.pointer (some ⟨w.heap.size, 0, none⟩)]) ∧ w' = w.alloc (.cells #[.int .i64 r, .int .i64 c, .int .i64 n, s] 24) := by
  go_enter Try.func32, Try.ntmps32
  go_wp2
  go_ret
  exact ⟨rfl, rfl⟩

/-- All blocks but g lie as they lay. -/
theorem grown_set {A B : World} {g : Nat} (h : A.grownBy B (some g)) (j : Nat) (u : Value) : A.grownBy (B.setCell ⟨g, j, none⟩ u) (some g) :=
  ⟨h.os, h.tape, h.output, by simpa using h.size, fun i hi hne => (Below.heap_setCell B ⟨g, j, none⟩ u i (fun e => hne (by rw [e]))).trans (h.block i hi hne)⟩
theorem grown_trans {A B C : World} {g : Nat} (h : A.grownBy B (some g)) (k : B.grownBy C (some g)) : A.grownBy C (some g) :=
  ⟨k.os.trans h.os, k.tape.trans h.tape, k.output.trans h.output, Nat.le_trans h.size k.size, fun i hi hne => (k.block i (Nat.lt_of_lt_of_le hi h.size) hne).trans (h.block i hi hne)⟩
theorem grown_m4 {A B : World} {g : Nat} (h : A.grownBy B (some g)) {k : Nat} {r c n s : Value} (hM : M4 A k r c n s) (hne : k ≠ g) : M4 B k r c n s := by
  have hb := h.block k hM.lt (by simpa using hne)
  exact ⟨(World.cell?_of_block (w := A) (a := ⟨k, 0, none⟩) hb).trans hM.c0, (World.cell?_of_block (w := A) (a := ⟨k, 1, none⟩) hb).trans hM.c1, (World.cell?_of_block (w := A) (a := ⟨k, 2, none⟩) hb).trans hM.c2, (World.cell?_of_block (w := A) (a := ⟨k, 3, none⟩) hb).trans hM.c3⟩
theorem grown_cell {A B : World} {g : Nat} (h : A.grownBy B (some g)) {k o : Nat} (hk : k < A.heap.size) (hne : k ≠ g) : B.cell? ⟨k, o, none⟩ = A.cell? ⟨k, o, none⟩ :=
  World.cell?_of_block (w := A) (a := ⟨k, o, none⟩) (h.block k hk (by simpa using hne))
theorem grown_frozen {A B : World} {g : Nat} (h : A.grownBy B (some g)) {k o : Nat} (hk : k < A.heap.size) (hne : k ≠ g) : B.frozen? ⟨k, o, none⟩ = A.frozen? ⟨k, o, none⟩ :=
  World.frozen?_of_block (w := A) (a := ⟨k, o, none⟩) (h.block k hk (by simpa using hne))
/-- A block of cells abides what the loop's own book-keeping turns. -/
theorem abid_block {W W' : World} {row : Option Nat} (hg : W.grownBy W' row) {B : Nat} (hr : ∀ r, row = some r → B ≤ r ∧ ∃ o : Obj, W.heap[r]? = some o ∧ o.isCells = false) {k : Nat} {o : Obj} (h : W.heap[k]? = some o) (ho : o.isCells = true) : W'.heap[k]? = some o := by
  have hlt := (Array.getElem?_eq_some_iff.1 h).1
  refine (hg.block k hlt ?_).trans h
  intro e
  obtain ⟨-, o', h', h''⟩ := hr k e.symm
  rw [h] at h'
  cases h'
  rw [ho] at h''
  cases h''
theorem Own.abid {W W' : World} {row : Option Nat} {g cap : Nat} {L : List Int} (h : Own W g cap L) (hg : W.grownBy W' row) {B : Nat} (hr : ∀ r, row = some r → B ≤ r ∧ ∃ o : Obj, W.heap[r]? = some o ∧ o.isCells = false) : Own W' g cap L := by
  obtain ⟨cur, hc, rest⟩ := h
  exact ⟨cur, abid_block hg hr hc rfl, rest⟩
theorem grown_abid {A W W' : World} {row : Option Nat} {g : Nat} (h : A.grownBy W (some g)) (hg : W.grownBy W' row) (hr : ∀ r, row = some r → A.heap.size ≤ r ∧ ∃ o : Obj, W.heap[r]? = some o ∧ o.isCells = false) : A.grownBy W' (some g) :=
  ⟨hg.os.trans h.os, hg.tape.trans h.tape, hg.output.trans h.output, Nat.le_trans h.size hg.size, fun i hi hne => (hg.block i (Nat.lt_of_lt_of_le hi h.size) (fun e => by have := (hr i e.symm).1; omega)).trans (h.block i hi hne)⟩

/-- A list by its places. -/
def lst (n : Nat) (f : Nat → Int) : List Int := (List.range n).map f
theorem lst_length (n : Nat) (f : Nat → Int) : (lst n f).length = n := by simp [lst]
theorem lst_get (n : Nat) (f : Nat → Int) (i : Nat) (h : i < n) : (lst n f).getD i 0 = f i := by simp [lst, List.getD_eq_getElem?_getD, h]
theorem lst_ext (n : Nat) (f g : Nat → Int) (h : ∀ i, i < n → f i = g i) : lst n f = lst n g := by
  apply List.ext_getElem
  · simp [lst]
  · intro i h1 h2
    simp [lst] at h1 ⊢
    exact h i h1
theorem lst_set (n : Nat) (f : Nat → Int) (i : Nat) (d : Int) : (lst n f).set i d = lst n (fun j => if j = i then d else f j) := by
  apply List.ext_getElem
  · simp [lst]
  · intro j h1 h2
    simp only [lst, List.getElem_set, List.getElem_map, List.getElem_range]
    by_cases h : i = j
    · rw [if_pos h, if_pos h.symm]
    · rw [if_neg h, if_neg (fun e => h e.symm)]
theorem lst_zero (n : Nat) : lst n (fun _ => 0) = List.replicate n 0 := by
  apply List.ext_getElem
  · simp [lst]
  · intro j h1 h2
    simp [lst]
end Go.Proofs.Ytijmjnmimijfdab
