/- Package disk: the power's calls. -/
import Derived.Test.YthaiejmajhmahabDLB
namespace Go.Proofs.Ythaiejmajhmahab
open Go.ChangeShapes Go.WideShapes Go.ChangeAt Go.RowKit Go.Maps
set_option linter.unusedVariables false
set_option linter.unusedSimpArgs false

/-- A block whose cells are all listed. -/
def Arr (w : World) (b : Nat) (t : TypeId) (vs : List Value) : Prop := w.heap[b]? = some (.cells vs.toArray t (0, 0))
theorem Arr.lt {w : World} {b : Nat} {t : TypeId} {vs : List Value} (h : Arr w b t vs) : b < w.heap.size := lt_of_block h
theorem Arr.cell {w : World} {b : Nat} {t : TypeId} {vs : List Value} (h : Arr w b t vs) (i : Nat) (v : Value) (hv : vs[i]? = some v) : w.cell? ⟨b, i, none⟩ = some v := by
  rw [cell_of_row w b i _ t (0, 0) h]
  simpa using hv
theorem Arr.free {w : World} {b : Nat} {t : TypeId} {vs : List Value} (h : Arr w b t vs) (i : Nat) : w.frozen? ⟨b, i, none⟩ = false := frozen_of_row w b i _ t h
theorem Arr.set {w : World} {b : Nat} {t : TypeId} {vs : List Value} (h : Arr w b t vs) (i : Nat) (u : Value) : Arr (w.setCell ⟨b, i, none⟩ u) b t (vs.set i u) := by
  have := heap_setCell_same w b i vs.toArray t u h
  unfold Arr
  rw [this]
  simp
theorem Arr.on {w w' : World} {b : Nat} {t : TypeId} {vs : List Value} (h : Arr w b t vs) (k : w'.heap[b]? = w.heap[b]?) : Arr w' b t vs := k.trans h
theorem Arr.kx {X : Nat → Prop} {w w' : World} {b : Nat} {t : TypeId} {vs : List Value} (h : Arr w b t vs) (k : KX X w w') (hn : ¬ X b) : Arr w' b t vs := h.on (k.block b h.lt hn)
theorem Arr.kept {w w' : World} {b : Nat} {t : TypeId} {vs : List Value} (h : Arr w b t vs) (k : Kept w w') : Arr w' b t vs := h.on (k.below.block b h.lt)
theorem arr_new (w : World) (vs : List Value) (t : TypeId) : Arr (w.alloc (.cells vs.toArray t)) w.heap.size t vs := heap_alloc_new w _
theorem KX.refl (X : Nat → Prop) (w : World) : KX X w w := (Kept.refl w).kx X
theorem KX.setCell {X : Nat → Prop} {a b : World} (h : KX X a b) {p : Addr} (hp : X p.block ∨ a.heap.size ≤ p.block) (u : Value) : KX X a (b.setCell p u) := by
  refine ⟨h.os, h.tape, h.output, by simpa using h.size, fun i hi hn => ?_, fun x hx => (World.frozen?_setCell _ _ _ _).trans (h.frozen x hx)⟩
  rw [Below.heap_setCell b p u i (fun e => by
    subst e
    rcases hp with hp | hp
    · exact hn hp
    · omega)]
  exact h.block i hi hn

abbrev pc (on fused : Bool) (left : Int) (r : List Value) : List Value := .bool on :: .bool fused :: .int .i64 left :: r
set_option maxHeartbeats 1000000 in
theorem light_any (B : Nat) (t : TypeId) (on fused : Bool) (left n : Int) (r : List Value) (w : World) (h : Arr w B t (pc on fused left r)) :
    Calls Try.prog 20 #[.pointer (some ⟨B, 0, none⟩), .int .i64 n] w fun e w' => e = .returned (.tuple #[]) ∧ KX (fun b => b = B) w w' ∧ Arr w' B t (pc (decide (0 < n)) true n r) := by
  have c0 := h.cell 0 _ rfl
  have c1 := h.cell 1 _ rfl
  have c2 := h.cell 2 _ rfl
  have f0 := h.free 0
  have f1 := h.free 1
  have f2 := h.free 2
  go_enter Try.func20, Try.ntmps20
  go_wp2_with fail
  refine bodyPost_end (v := .tuple #[]) (by simp [results, Try.results20, go_sem]) rfl ?_
  have hk : ∀ x y z : Value, KX (fun b => b = B) w (((w.setCell ⟨B, 0, none⟩ x).setCell ⟨B, 1, none⟩ y).setCell ⟨B, 2, none⟩ z) := fun x y z => (((KX.refl (fun b => b = B) w).setCell (.inl rfl) x).setCell (.inl rfl) y).setCell (.inl rfl) z
  refine ⟨rfl, hk _ _ _, ?_⟩
  have := ((h.set 0 (.bool (decide (0 < n)))).set 1 (.bool true)).set 2 (.int .i64 n)
  simpa using this
set_option maxHeartbeats 1000000 in
theorem burn_any (B : Nat) (t : TypeId) (on fused : Bool) (left : Int) (r : List Value) (w : World) (hA : Arr w B t (pc on fused left r)) :
    Calls Try.prog 23 #[.pointer (some ⟨B, 0, none⟩)] w fun e w' => e = .returned (.tuple #[]) ∧ KX (fun b => b = B) w w' ∧ Arr w' B t (if fused then pc (decide (0 < wrap64 (left - 1))) true (wrap64 (left - 1)) r else pc on fused left r) := by
  have c1 := hA.cell 1 _ rfl
  have c2 := hA.cell 2 _ rfl
  have f1 := hA.free 1
  have f2 := hA.free 2
  cases fused
  · go_enter Try.func23, Try.ntmps23
    go_wp2_with fail
    refine bodyPost_end (v := .tuple #[]) (by simp [results, Try.results23, go_sem]) rfl ?_
    exact ⟨rfl, KX.refl _ _, by simpa using hA⟩
  · go_enter Try.func23, Try.ntmps23
    go_wp2_with (first | (go_at_call 20; refine (light_any B t on true left _ r _ hA).mono ?_; rintro e u1 ⟨rfl, k1, h1⟩))
    refine bodyPost_end (v := .tuple #[]) (by simp [results, Try.results23, go_sem]) rfl ?_
    exact ⟨rfl, k1, by simpa using h1⟩
end Go.Proofs.Ythaiejmajhmahab
