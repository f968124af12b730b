/- Sums over a list, in both directions and in parts; a sum that lies in a block of its own. -/
import Derived.Test.YtdpccifhhencgaaGreatDoorZo45
namespace Go.Proofs.YtdpccifhhencgaaGreatDoor
open Go.ChangeShapes Go.WideShapes Go.ChangeAt Go.RowKit
set_option linter.unusedVariables false
set_option linter.unusedSimpArgs false
set_option maxHeartbeats 16000000
set_option maxRecDepth 100000
def sI (f : Nat → Int) : Nat → Int
 | 0 => 0
 | i + 1 => sI f i + f i
def oI (f : Nat → Bool) : Nat → Bool
 | 0 => false
 | i + 1 => oI f i || f i
theorem sI_front (f : Nat → Int) : ∀ n, sI f (n + 1) = f 0 + sI (fun j => f (j + 1)) n
 | 0 => by simp [sI]
 | n + 1 => by
  rw [sI, sI_front f n, sI]
  omega
theorem oI_front (f : Nat → Bool) : ∀ n, oI f (n + 1) = (f 0 || oI (fun j => f (j + 1)) n)
 | 0 => by simp [oI]
 | n + 1 => by
  rw [oI, oI_front f n, oI, Bool.or_assoc]
theorem sI_rev (f : Nat → Int) : ∀ n, sI (fun j => f (n - 1 - j)) n = sI f n
 | 0 => rfl
 | n + 1 => by
  rw [sI_front, sI]
  have e : (fun j => f (n + 1 - 1 - (j + 1))) = fun j => f (n - 1 - j) := by
   funext j
   congr 1
   omega
  rw [e, sI_rev f n]
  simp only [Nat.add_sub_cancel, Nat.sub_zero]
  omega
theorem oI_rev (f : Nat → Bool) : ∀ n, oI (fun j => f (n - 1 - j)) n = oI f n
 | 0 => rfl
 | n + 1 => by
  rw [oI_front, oI]
  have e : (fun j => f (n + 1 - 1 - (j + 1))) = fun j => f (n - 1 - j) := by
   funext j
   congr 1
   omega
  rw [e, oI_rev f n]
  simp only [Nat.add_sub_cancel, Nat.sub_zero]
  rw [Bool.or_comm]
theorem sI_parts (f : Nat → Int) (b : Nat → Bool) : ∀ n, sI (fun j => bif b j then f j else 0) n + sI (fun j => bif b j then 0 else f j) n = sI f n
 | 0 => rfl
 | n + 1 => by
  have := sI_parts f b n
  rw [sI, sI, sI]
  cases b n <;> simp only [cond_true, cond_false] <;> omega
theorem oI_parts (f : Nat → Bool) (b : Nat → Bool) : ∀ n, (oI (fun j => bif b j then f j else false) n || oI (fun j => bif b j then false else f j) n) = oI f n
 | 0 => rfl
 | n + 1 => by
  have := oI_parts f b n
  rw [oI, oI, oI, ← this]
  cases b n <;> simp only [cond_true, cond_false] <;> generalize oI _ n = x <;> generalize oI _ n = y <;> generalize f n = z <;> revert x y z <;> decide
theorem sI_lt (f : Nat → Int) (h : ∀ j, (f j).natAbs < 2 ^ expJ) : ∀ n, (sI f n).natAbs ≤ n * 2 ^ expJ
 | 0 => by simp [sI]
 | n + 1 => by
  have h1 := sI_lt f h n
  have h2 := h n
  rw [sI, Nat.add_mul, Nat.one_mul]
  generalize 2 ^ expJ = B at *
  generalize n * B = A at *
  omega
theorem sI_bd (f : Nat → Int) (h : ∀ j, (f j).natAbs < 2 ^ expJ) (n : Nat) (hn : n ≤ 401) : (sI f n).natAbs < 2 ^ expK := by
 have h1 := sI_lt f h n
 have h2 : n * 2 ^ expJ ≤ 512 * 2 ^ expJ := Nat.mul_le_mul_right _ (by omega)
 have h3 : 512 * 2 ^ expJ < 2 ^ expK := by
  have e : (512 : Nat) = 2 ^ 9 := by decide
  rw [e, ← Nat.pow_add]
  exact Nat.pow_lt_pow_right (by decide) (by rw [expJ_is, expK_is]; omega)
 omega
/- a sum that lies in a block of its own, its digits above a mark -/
structure Box (u : World) (lo B : Nat) (r : Nm) (p m z : Bool) (ao : Option Addr) (c : Nat) : Prop where
 c0 : u.cell? ⟨B, 0, none⟩ = some (.bool r.neg)
 c1 : u.cell? ⟨B, 1, none⟩ = some (.slice ao r.mag.length c)
 c2 : u.cell? ⟨B, 2, none⟩ = some (.int .i64 r.exp)
 c3 : u.cell? ⟨B, 3, none⟩ = some (.bool p)
 c4 : u.cell? ⟨B, 4, none⟩ = some (.bool m)
 c5 : u.cell? ⟨B, 5, none⟩ = some (.bool z)
 fz : ∀ o, u.frozen? ⟨B, o, none⟩ = false
 lt : B < u.heap.size
 hc : ao = none → c = 0
 sl : Sl u (.slice ao r.mag.length c) r.mag
 hi : ∀ b off, ao = some ⟨b, off, none⟩ → r.mag ≠ [] → lo ≤ b
theorem Box.kept {u u' : World} {lo B : Nat} {r : Nm} {p m z : Bool} {ao : Option Addr} {c : Nat} (h : Box u lo B r p m z ao c) (k : Kept u u') : Box u' lo B r p m z ao c :=
 ⟨(k.below.cell (p := ⟨B, 0, none⟩) h.lt).trans h.c0, (k.below.cell (p := ⟨B, 1, none⟩) h.lt).trans h.c1, (k.below.cell (p := ⟨B, 2, none⟩) h.lt).trans h.c2, (k.below.cell (p := ⟨B, 3, none⟩) h.lt).trans h.c3, (k.below.cell (p := ⟨B, 4, none⟩) h.lt).trans h.c4, (k.below.cell (p := ⟨B, 5, none⟩) h.lt).trans h.c5, fun o => (k.frozen _).trans (h.fz o), Nat.lt_of_lt_of_le h.lt k.below.size, h.hc, h.sl.kept k, h.hi⟩
theorem sl_other {u : World} {ao : Option Addr} {l c : Nat} {L : List Int} (h : Sl u (.slice ao l c) L) (p : Addr) (hp : ∀ b off, ao = some ⟨b, off, none⟩ → L ≠ [] → b ≠ p.block) (v : Value) : Sl (u.setCell p v) (.slice ao l c) L := by
 obtain ⟨a', c', e, h1, h2, hr⟩ := h
 cases e
 refine ⟨_, _, rfl, h1, h2, fun hne => ?_⟩
 obtain ⟨b, off, rfl, hb, hr⟩ := hr hne
 have hbp := hp b off rfl hne
 refine ⟨b, off, rfl, by simpa using hb, fun i hi => ?_⟩
 exact (World.cell?_of_block (a := ⟨b, off + i, none⟩) (Below.heap_setCell u p v b hbp)).trans (hr i hi)
theorem Box.other {u : World} {lo B : Nat} {r : Nm} {p m z : Bool} {ao : Option Addr} {c : Nat} (h : Box u lo B r p m z ao c) (q o : Nat) (hq : q ≠ B) (hl : q < lo) (v : Value) : Box (u.setCell ⟨q, o, none⟩ v) lo B r p m z ao c := by
 have hB : B ≠ (⟨q, o, none⟩ : Addr).block := fun e => hq e.symm
 have hcell : ∀ i, (u.setCell ⟨q, o, none⟩ v).cell? ⟨B, i, none⟩ = u.cell? ⟨B, i, none⟩ := fun i => World.cell?_of_block (a := ⟨B, i, none⟩) (Below.heap_setCell u ⟨q, o, none⟩ v B hB)
 exact ⟨(hcell 0).trans h.c0, (hcell 1).trans h.c1, (hcell 2).trans h.c2, (hcell 3).trans h.c3, (hcell 4).trans h.c4, (hcell 5).trans h.c5, fun i => by simpa using h.fz i, by simpa using h.lt, h.hc, sl_other h.sl _ (fun b off e hne => by have := h.hi b off e hne; dsimp only; omega) v, h.hi⟩
abbrev six (u : World) (B : Nat) (v0 v1 v2 v3 v4 v5 : Value) : World := (((((u.setCell ⟨B, 0, none⟩ v0).setCell ⟨B, 1, none⟩ v1).setCell ⟨B, 2, none⟩ v2).setCell ⟨B, 3, none⟩ v3).setCell ⟨B, 4, none⟩ v4).setCell ⟨B, 5, none⟩ v5
theorem Box.six {u : World} {lo B : Nat} {r : Nm} {p m z : Bool} {ao : Option Addr} {c : Nat} (h : Box u lo B r p m z ao c) (q : Nat) (hq : q ≠ B) (hl : q < lo) (v0 v1 v2 v3 v4 v5 : Value) : Box (six u q v0 v1 v2 v3 v4 v5) lo B r p m z ao c :=
 (((((h.other q 0 hq hl v0).other q 1 hq hl v1).other q 2 hq hl v2).other q 3 hq hl v3).other q 4 hq hl v4).other q 5 hq hl v5
theorem Box.new {x u : World} {lo B : Nat} {r q : Nm} {p m z : Bool} {ao : Option Addr} {c : Nat} (h : Box u lo B r p m z ao c) (hB : B < lo) (hx : lo ≤ x.heap.size) (vn : Bool) (va : Option Addr) (vl vc : Nat) (vx : Int) (hN : New x u (.agg #[.bool vn, .slice va vl vc, .int .i64 vx]) q) (P M Z : Bool) : Box (Go.Proofs.YtdpccifhhencgaaGreatDoor.six u B (.bool vn) (.slice va vl vc) (.int .i64 vx) (.bool P) (.bool M) (.bool Z)) lo B q P M Z va vc := by
 obtain ⟨e1, e2, e3, e4, hs⟩ := hN.parts
 have hb : ∀ b off, va = some ⟨b, off, none⟩ → q.mag ≠ [] → lo ≤ b := fun b off e hne => by
  rcases hN with ⟨rfl, -⟩ | ⟨g, cap, e5, hg, ho, -⟩
  ·exact absurd rfl hne
  ·simp only [Value.agg.injEq, Array.mk.injEq, List.cons.injEq, Value.slice.injEq] at e5
   rw [e] at e5
   have := e5.2.1.1
   simp at this
   omega
 subst e1 e2 e3
 have hne : ∀ b off, va = some ⟨b, off, none⟩ → q.mag ≠ [] → b ≠ B := fun b off e hn => by have := hb b off e hn; omega
 have c0 := h.c0
 have c1 := h.c1
 have c2 := h.c2
 have c3 := h.c3
 have c4 := h.c4
 have c5 := h.c5
 refine ⟨by simp [go_sem, c0, c1, c2, c3, c4, c5], by simp [go_sem, c0, c1, c2, c3, c4, c5], by simp [go_sem, c0, c1, c2, c3, c4, c5], by simp [go_sem, c0, c1, c2, c3, c4, c5], by simp [go_sem, c0, c1, c2, c3, c4, c5], by simp [go_sem, c0, c1, c2, c3, c4, c5], fun o => by simpa using h.fz o, by simpa using h.lt, e4, ?_, hb⟩
 exact sl_other (sl_other (sl_other (sl_other (sl_other (sl_other hs _ hne _) _ hne _) _ hne _) _ hne _) _ hne _) _ hne _
end Go.Proofs.YtdpccifhhencgaaGreatDoor
