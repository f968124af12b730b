/- The document's own numbers of any size: Norm, Plus, Minus, Times. The document's own Plus. The document's own Plus, Minus, Times and Order of any two numbers. The document's own Minus, Times and Order of any two numbers. What exact's Add, Sub, Mul and Cmp tell is what the document's own Plus, Minus, Times and Order tell. exact's Add, Sub, Mul and Cmp where a number is none. What is kept of answers, one after another; the laws' own 'is'. exact's Add, Sub, Mul and Cmp of whatever is handed in, beside the document's own answers. The walk of the laws' own 'twos'. The walk of the statement on sums, differences, products and the order of any two. What is none of what is kept stays: blocks of another type. exact's Int below 0; the document's own Whole and Make, Finite and Exact; exact's Make and Int of whatever is handed in; the walk of the laws' own 'made'. Round and Mean of any sum: what the program answers, and that the document says so. -/
import Derived.Test.YtpkeadfndgddlaaDoorZl42
import Derived.Test.YtpkeadfndgddlaaDoorZl43
import Derived.Test.YtpkeadfndgddlaaDoorZl32
import Derived.Test.YtpkeadfndgddlaaDoorZl38
import Derived.Deep.Cut
import Derived.Test.YtpkeadfndgddlaaDoorZl35
import Derived.Test.YtpkeadfndgddlaaDoorZl28
namespace Go.Proofs.YtpkeadfndgddlaaDoor
open Go.ChangeShapes Go.WideShapes Go.ChangeAt Go.RowKit
set_option linter.unusedVariables false
set_option linter.unusedSimpArgs false
set_option maxHeartbeats 16000000
set_option maxRecDepth 100000
/-- A number that can be read, with what is known of where its digits lie. -/
def RNp (P : Nat → Prop) (w : World) (v : Value) (r : Nm) : Prop := ∃ s, v = .agg #[.bool r.neg, s, .int .i64 r.exp] ∧ RLp P w s r.mag
theorem RNp.kept {P : Nat → Prop} {w w' : World} {v : Value} {r : Nm} (h : RNp P w v r) (k : Kept w w') : RNp P w' v r := by
 obtain ⟨s, e, hs⟩ := h
 exact ⟨s, e, hs.kept k⟩
theorem RNp.shape {P : Nat → Prop} {w : World} {v : Value} {r : Nm} (h : RNp P w v r) : ∃ ao c, v = .agg #[.bool r.neg, .slice ao r.mag.length c, .int .i64 r.exp] ∧ RLp P w (.slice ao r.mag.length c) r.mag := by
 obtain ⟨s, rfl, h⟩ := h
 have h' := h
 obtain ⟨ao, c, rfl, -⟩ := h'
 exact ⟨ao, c, rfl, h⟩
theorem RNp.numAt {P : Nat → Prop} {w : World} {v : Value} {r : Nm} (h : RNp P w v r) : NumAt w v r := by
 obtain ⟨s, rfl, ao, c, rfl, -, hs, -⟩ := h
 exact ⟨_, rfl, hs⟩
theorem RLp.shape {P : Nat → Prop} {w : World} {v : Value} {M : List Int} (h : RLp P w v M) : ∃ ao c, v = .slice ao M.length c := by
 obtain ⟨ao, c, e, -⟩ := h
 exact ⟨ao, c, e⟩
theorem RLp.set {P : Nat → Prop} {w : World} {v : Value} {M : List Int} (h : RLp P w v M) (p : Addr) (hp : ∀ b, P b → b ≠ p.block) (u : Value) : RLp P (w.setCell p u) v M := by
 obtain ⟨ao, c, rfl, hc, ⟨ao', c', e, h1, h2, hr⟩, hP⟩ := h
 cases e
 refine ⟨ao, c, rfl, hc, ⟨ao, c, rfl, h1, h2, fun hne => ?_⟩, hP⟩
 obtain ⟨b, off, rfl, hb, hr⟩ := hr hne
 have hbp := hp b (hP b off hne rfl)
 refine ⟨b, off, rfl, by simpa using hb, fun i hi => ?_⟩
 exact (World.cell?_of_block (a := ⟨b, off + i, none⟩) (Below.heap_setCell w p u b hbp)).trans (hr i hi)
/-- What a function leaves in its result's block. -/
theorem RNp.done {P : Nat → Prop} {w : World} {v : Value} {r : Nm} (h : RNp P w v r) (p : Nat) (hp : ∀ b, P b → b ≠ p) (x y z : Value) : RNp P (((w.setCell ⟨p, 0, none⟩ x).setCell ⟨p, 1, none⟩ y).setCell ⟨p, 2, none⟩ z) v r := by
 obtain ⟨s, e, hs⟩ := h
 exact ⟨s, e, ((hs.set ⟨p, 0, none⟩ hp x).set ⟨p, 1, none⟩ hp y).set ⟨p, 2, none⟩ hp z⟩
/-! ### The calls -/
theorem RLp.grwS {P : Nat → Prop} {S : List Nat} {w w' : World} {v : Value} {M : List Int} (h : RLp P w v M) (k : GrwS S w w') (hP : ∀ b, P b → b ∉ S) : RLp P w' v M := by
 obtain ⟨ao, c, rfl, hc, ⟨ao', c', e, h1, h2, hr⟩, hp⟩ := h
 cases e
 refine ⟨ao, c, rfl, hc, ⟨ao, c, rfl, h1, h2, fun hne => ?_⟩, hp⟩
 obtain ⟨b, off, rfl, hb, hr⟩ := hr hne
 refine ⟨b, off, rfl, Nat.lt_of_lt_of_le hb k.size, fun i hi => ?_⟩
 exact (World.cell?_of_block (a := ⟨b, off + i, none⟩) (k.block b hb (hP b (hp b off hne rfl)))).trans (hr i hi)
theorem RLp.sl {P : Nat → Prop} {w : World} {v : Value} {M : List Int} (h : RLp P w v M) : Sl w v M := by
 obtain ⟨ao, c, rfl, -, hs, -⟩ := h
 exact hs
/-- Three cells that stay as long as their block is none of those that are turned. -/
def Tri (X : World) (p : Nat) (v0 v1 v2 : Value) : Prop := p < X.heap.size ∧ ∀ S u, p ∉ S → GrwS S X u → (u.cell? ⟨p, 0, none⟩ = some v0 ∧ u.cell? ⟨p, 1, none⟩ = some v1) ∧ u.cell? ⟨p, 2, none⟩ = some v2
theorem Tri.grw {S : List Nat} {X X' : World} {p : Nat} {v0 v1 v2 : Value} (h : Tri X p v0 v1 v2) (k : GrwS S X X') (hp : p ∉ S) : Tri X' p v0 v1 v2 :=
 ⟨Nat.lt_of_lt_of_le h.1 k.size, fun S' u hp' k' => h.2 (S ++ S') u (fun hm => (List.mem_append.1 hm).elim hp hp') ((k.mono (fun i hi => List.mem_append.2 (.inl hi))).trans (k'.mono (fun i hi => List.mem_append.2 (.inr hi))))⟩
theorem Tri.kept {X X' : World} {p : Nat} {v0 v1 v2 : Value} (h : Tri X p v0 v1 v2) (k : Kept X X') : Tri X' p v0 v1 v2 := h.grw (k.toS []) (by simp)
theorem Tri.new (X : World) (v0 v1 v2 : Value) (t : TypeId) : Tri (X.alloc (.cells #[v0, v1, v2] t)) X.heap.size v0 v1 v2 :=
 ⟨by simp, fun S u hp k => by
  have hb := k.block X.heap.size (by simp) hp
  refine ⟨⟨?_, ?_⟩, ?_⟩
  ·rw [World.cell?_of_block (a := ⟨X.heap.size, 0, none⟩) hb]; simp [go_sem]
  ·rw [World.cell?_of_block (a := ⟨X.heap.size, 1, none⟩) hb]; simp [go_sem]
  ·rw [World.cell?_of_block (a := ⟨X.heap.size, 2, none⟩) hb]; simp [go_sem]⟩
/-! ### Make: what both tell -/
theorem sl_none (w : World) : Sl w (.slice none 0 0) [] := ⟨none, 0, rfl, Nat.le_refl _, by simp [maxLen], fun h => absurd rfl h⟩
theorem lookA (n : Int) (a : Nm) (ra : Rg a.mag) (la : a.mag.length < 60000000) (p m z : Bool) (ao : Option Addr) (c : Nat) (u : World) (h : Sl u (.slice ao a.mag.length c) a.mag) (f : Int) (hf : f = FE n 0 (vld a)) : Calls Tryd.prog 16 #[.int .i64 n, accV a.neg (.slice ao a.mag.length c) a.exp p m z, .slice none 0 0] u fun e w' => e = .returned (.int .i64 f) ∧ Kept u w' := by
 have := look_any n a.neg a.mag a.exp ra (by omega) ao c p m z [] (by simp) u h (.slice none 0 0) (sl_none u)
 rw [lk_fe] at this
 rw [hf]
 exact this
end Go.Proofs.YtpkeadfndgddlaaDoor
