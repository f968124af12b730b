/- Arrays in one block; spoil and Exact of what was answered. -/
import Derived.Test.YtcldcjchfagcoaaT56
import Derived.Test.YtcldcjchfagcoaaT35
import Derived.Test.YtcldcjchfagcoaaT36
namespace Go.Proofs.Ytcldcjchfagcoaa
open Go.ChangeShapes Go.WideShapes Go.ChangeAt Go.RowKit
set_option linter.unusedVariables false
set_option linter.unusedSimpArgs false

/-- A block's whole content. -/
def Arr (u : World) (B : Nat) (t : TypeId) (V : List Value) : Prop := u.heap[B]? = some (.cells V.toArray t (0, 0))
theorem Arr.lt {u : World} {B : Nat} {t : TypeId} {V : List Value} (h : Arr u B t V) : B < u.heap.size := lt_of_block h
theorem Arr.on {u u' : World} {B : Nat} {t : TypeId} {V : List Value} (h : Arr u B t V) (k : u'.heap[B]? = u.heap[B]?) : Arr u' B t V := k.trans h
theorem Arr.bl {u u' : World} {B : Nat} {t : TypeId} {V : List Value} (h : Arr u B t V) (k : Bl u u') : Arr u' B t V := h.on (k.below.block B h.lt)
theorem Arr.cell {u : World} {B : Nat} {t : TypeId} {V : List Value} (h : Arr u B t V) (i : Nat) (x : Value) (hi : V[i]? = some x) : u.cell? ⟨B, i, none⟩ = some x := by
  rw [cell_of_row u B i V.toArray t (0, 0) h]
  simpa using hi
theorem Arr.free {u : World} {B : Nat} {t : TypeId} {V : List Value} (h : Arr u B t V) (i : Nat) : u.frozen? ⟨B, i, none⟩ = false := frozen_of_row u B i V.toArray t h
theorem Arr.set {u : World} {B : Nat} {t : TypeId} {V : List Value} (h : Arr u B t V) (i : Nat) (x : Value) : Arr (u.setCell ⟨B, i, none⟩ x) B t (V.set i x) := by
  have := heap_setCell_same u B i V.toArray t x h
  unfold Arr
  rw [this]
  simp
theorem Arr.setOther {u : World} {B : Nat} {t : TypeId} {V : List Value} (h : Arr u B t V) {p : Addr} (hp : B ≠ p.block) (x : Value) : Arr (u.setCell p x) B t V := h.on (Below.heap_setCell u p x B hp)

def blkS (v : Value) : List Nat := match v with
  | .slice (some a) _ _ => [a.block]
  | _ => []
theorem blkS_mr {H : Nat} {w : World} {s : Value} {T : List Int} (h : MR H w s T) : ∀ x ∈ blkS s, H ≤ x ∧ x < w.heap.size := by
  rcases h with ⟨-, rfl⟩ | ⟨g, cap, rfl, hg, ho⟩
  · intro x hx; cases hx
  · intro x hx
    obtain rfl : x = g := by simpa [blkS] using hx
    exact ⟨hg, ho.lt⟩

set_option maxHeartbeats 1000000 in
theorem spoil_nil (r c n : Int) (w : World) : Calls Try.prog 26 #[.agg #[.int .i64 r, .int .i64 c, .int .i64 n, .slice none 0 0]] w fun e w' => (∃ v, e = .returned v) ∧ Kept w w' := by
  go_enter Try.func26, Try.ntmps26
  go_wp2_with fail
  refine wp_loop_rounds 1 ?_
  rw [rounds_succ]
  go_wp2_with fail
  all_goals
    go_end0
    exact ⟨⟨_, rfl⟩, (Kept.refl w).alloc _ _⟩

theorem spoil_mr (r c n : Int) (T : List Int) (hlen : T.length ≤ 100000) (H : Nat) (s : Value) (u : World) (h : MR H u s T) : Calls Try.prog 26 #[.agg #[.int .i64 r, .int .i64 c, .int .i64 n, s]] u fun e w' => (∃ v, e = .returned v) ∧ GrB (blkS s) u w' := by
  rcases h with ⟨rfl, rfl⟩ | ⟨g, cap, rfl, hg, ho⟩
  · refine (spoil_nil r c n u).mono ?_
    rintro e w' ⟨he, k⟩
    exact ⟨he, (GrB.refl _ _).bl k.bl⟩
  · refine (spoil_any r c n T hlen g cap u ho).mono ?_
    rintro e w' ⟨he, k⟩
    exact ⟨he, (GrB.refl _ _).grw k (.inl (by simp [blkS]))⟩

theorem exact_mr (r c n : Int) (T : List Int) (hlen : T.length ≤ 100000) (H H' : Nat) (s s' : Value) (u : World) (h : MR H u s T) (h' : MR H' u s' T) : Calls Try.prog 21 #[.agg #[.int .i64 r, .int .i64 c, .int .i64 n, s], .agg #[.int .i64 r, .int .i64 c, .int .i64 n, s']] u fun e w' => e = .returned (.bool true) ∧ Kept u w' := by
  obtain ⟨ao, c1, rfl, -, h1⟩ := h.sl
  obtain ⟨ao', c1', rfl, -, h1'⟩ := h'.sl
  exact exact_true r c n T hlen ao ao' c1 c1' u h1 h1'
end Go.Proofs.Ytcldcjchfagcoaa
