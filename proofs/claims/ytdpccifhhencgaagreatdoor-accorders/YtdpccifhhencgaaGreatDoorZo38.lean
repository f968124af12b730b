/- exact's Add, Sub, Mul and Cmp where a number is none. What is kept of answers, one after another; the laws' own 'is'. exact's Add, Sub, Mul and Cmp of whatever is handed in, beside the document's own answers. The walk of the laws' own 'twos'. The walk of the statement on sums, differences, products and the order of any two. What is none of what is kept stays: blocks of another type. exact's Int below 0; the document's own Whole and Make, Finite and Exact; exact's Make and Int of whatever is handed in; the walk of the laws' own 'made'. Round and Mean of any sum: what the program answers, and that the document says so. -/
import Derived.Test.YtdpccifhhencgaaGreatDoorZo37
import Derived.Deep.Cut
import Derived.Test.YtdpccifhhencgaaGreatDoorZo30
import Derived.Test.YtdpccifhhencgaaGreatDoorZo24
import Derived.Test.YtdpccifhhencgaaGreatDoorZo27
namespace Go.Proofs.YtdpccifhhencgaaGreatDoor
open Go.ChangeShapes Go.WideShapes Go.ChangeAt Go.RowKit
set_option linter.unusedVariables false
set_option linter.unusedSimpArgs false
set_option maxHeartbeats 16000000
set_option maxRecDepth 100000
def Frn (w0 x : World) (kb : Nat) (vL vW : Value) (E : List Ent) (D : List Nat) (N : Nat) (u : World) : Prop := ∃ vL' vW' E', KeepAt w0 u kb vL' vW' E' ∧ E'.length ≤ N ∧ GrwS (kb :: (blk vL ++ blk vW)) x u ∧ (∀ b ∈ blks kb vL' vW' E', b ∈ blks kb vL vW E ∨ b ∈ D ∨ x.heap.size ≤ b) ∧ ∀ b ∈ kb :: (blk vL' ++ blk vW'), b ∈ kb :: (blk vL ++ blk vW) ∨ x.heap.size ≤ b
theorem Frn.on {w0 x u u' : World} {kb : Nat} {vL vW : Value} {E : List Ent} {D : List Nat} {N : Nat} (h : Frn w0 x kb vL vW E D N u) (k : Kept u u') : Frn w0 x kb vL vW E D N u' := by
 obtain ⟨vL', vW', E', h1, h0, h2, h3, h4⟩ := h
 exact ⟨vL', vW', E', h1.keptOn k, h0, h2.trans (k.toS _), h3, h4⟩
theorem Frn.kept {w0 x u : World} {kb : Nat} {vL vW : Value} {E : List Ent} {D : List Nat} {N : Nat} (h : Frn w0 x kb vL vW E D N u) : Kept w0 u := by
 obtain ⟨vL', vW', E', h1, -⟩ := h
 exact h1.kept
theorem Frn.grw {w0 x u : World} {kb : Nat} {vL vW : Value} {E : List Ent} {D : List Nat} {N : Nat} (h : Frn w0 x kb vL vW E D N u) : GrwS (kb :: (blk vL ++ blk vW)) x u := by
 obtain ⟨vL', vW', E', h1, h0, h2, -⟩ := h
 exact h2
theorem RLp.grwS {P : Nat → Prop} {S : List Nat} {w w' : World} {v : Value} {M : List Int} (h : RLp P w v M) (k : GrwS S w w') (hP : ∀ b, P b → b ∉ S) : RLp P w' v M := by
 obtain ⟨ao, c, rfl, hc, ⟨ao', c', e, h1, h2, hr⟩, hp⟩ := h
 cases e
 refine ⟨ao, c, rfl, hc, ⟨ao, c, rfl, h1, h2, fun hne => ?_⟩, hp⟩
 obtain ⟨b, off, rfl, hb, hr⟩ := hr hne
 refine ⟨b, off, rfl, Nat.lt_of_lt_of_le hb k.size, fun i hi => ?_⟩
 exact (World.cell?_of_block (a := ⟨b, off + i, none⟩) (k.block b hb (hP b (hp b off hne rfl)))).trans (hr i hi)
theorem RLp.sl {P : Nat → Prop} {w : World} {v : Value} {M : List Int} (h : RLp P w v M) : Sl w v M := by
 obtain ⟨ao, c, rfl, -, hs, -⟩ := h
 exact hs
/-- Three cells that stay as long as their block is none of those that are turned. -/
def Tri (X : World) (p : Nat) (v0 v1 v2 : Value) : Prop := p < X.heap.size ∧ ∀ S u, p ∉ S → GrwS S X u → (u.cell? ⟨p, 0, none⟩ = some v0 ∧ u.cell? ⟨p, 1, none⟩ = some v1) ∧ u.cell? ⟨p, 2, none⟩ = some v2
theorem Tri.grw {S : List Nat} {X X' : World} {p : Nat} {v0 v1 v2 : Value} (h : Tri X p v0 v1 v2) (k : GrwS S X X') (hp : p ∉ S) : Tri X' p v0 v1 v2 :=
 ⟨Nat.lt_of_lt_of_le h.1 k.size, fun S' u hp' k' => h.2 (S ++ S') u (fun hm => (List.mem_append.1 hm).elim hp hp') ((k.mono (fun i hi => List.mem_append.2 (.inl hi))).trans (k'.mono (fun i hi => List.mem_append.2 (.inr hi))))⟩
theorem Tri.kept {X X' : World} {p : Nat} {v0 v1 v2 : Value} (h : Tri X p v0 v1 v2) (k : Kept X X') : Tri X' p v0 v1 v2 := h.grw (k.toS []) (by simp)
theorem Tri.new (X : World) (v0 v1 v2 : Value) (t : TypeId) : Tri (X.alloc (.cells #[v0, v1, v2] t)) X.heap.size v0 v1 v2 :=
 ⟨by simp, fun S u hp k => by
  have hb := k.block X.heap.size (by simp) hp
  refine ⟨⟨?_, ?_⟩, ?_⟩
  ·rw [World.cell?_of_block (a := ⟨X.heap.size, 0, none⟩) hb]; simp [go_sem]
  ·rw [World.cell?_of_block (a := ⟨X.heap.size, 1, none⟩) hb]; simp [go_sem]
  ·rw [World.cell?_of_block (a := ⟨X.heap.size, 2, none⟩) hb]; simp [go_sem]⟩
/-! ### Make: what both tell -/
theorem sl_none (w : World) : Sl w (.slice none 0 0) [] := ⟨none, 0, rfl, Nat.le_refl _, by simp [maxLen], fun h => absurd rfl h⟩
theorem lookA (n : Int) (a : Nm) (ra : Rg a.mag) (la : a.mag.length < 60000000) (p m z : Bool) (ao : Option Addr) (c : Nat) (u : World) (h : Sl u (.slice ao a.mag.length c) a.mag) (f : Int) (hf : f = FE n 0 (vld a)) : Calls Tryz.prog 58 #[.int .i64 n, accV a.neg (.slice ao a.mag.length c) a.exp p m z, .slice none 0 0] u fun e w' => e = .returned (.int .i64 f) ∧ Kept u w' := by
 have := look_any n a.neg a.mag a.exp ra (by omega) ao c p m z [] (by simp) u h (.slice none 0 0) (sl_none u)
 rw [lk_fe] at this
 rw [hf]
 exact this
end Go.Proofs.YtdpccifhhencgaaGreatDoor
