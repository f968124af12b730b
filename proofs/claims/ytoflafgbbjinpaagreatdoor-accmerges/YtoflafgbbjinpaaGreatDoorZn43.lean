/- acc's Same of one sum; the laws' added, by values. Sums over a list, in both directions and in parts; a sum that lies in a block of its own. The walks of the document's own Neg, Abs, Canon, Next, Prev. The document's own Neg, Abs, Canon, Next, Prev: one contract each, the same as package bits'. The walk of numbers of package bits, called with two patterns. The walks of place, Order, Min, Max of package bits, and of cmp.Compare at int. The walks of the document's own place and Order. The document's inf and negative. The document's AddOne, by values. -/
import Derived.Test.YtoflafgbbjinpaaGreatDoorZn41
import Derived.Test.YtoflafgbbjinpaaGreatDoorZn35
import Derived.Test.YtoflafgbbjinpaaGreatDoorZn19
import Derived.Outline
import Derived.Deep.RegionHeld
import Derived.Test.YtoflafgbbjinpaaGreatDoorZn13
namespace Go.Proofs.YtoflafgbbjinpaaGreatDoor
open Go.ChangeShapes Go.WideShapes Go.ChangeAt Go.RowKit
set_option linter.unusedVariables false
set_option linter.unusedSimpArgs false
set_option maxHeartbeats 16000000
set_option maxRecDepth 100000
theorem accSame_true (r : Nm) (hl : r.mag.length < 100000000) (p m z : Bool) (a b : Option Addr) (c d : Nat) (w : World) (h : Sl w (.slice a r.mag.length c) r.mag) (h' : Sl w (.slice b r.mag.length d) r.mag) :
  Calls Tryz.prog 34 #[accV r.neg (.slice a r.mag.length c) r.exp p m z, accV r.neg (.slice b r.mag.length d) r.exp p m z] w fun e w' => e = .returned (.bool true) ∧ Kept w w' := by
 have KE : Hid (∀ u, Kept w u → Calls Tryz.prog 86 #[.slice a r.mag.length c, .slice b r.mag.length d] u fun e w' => e = .returned (.bool true) ∧ Kept u w') := fun u k => equal_true r.mag hl a b c d u (h.kept k) (h'.kept k)
 clear h h'
 generalize r.mag.length = N at *
 generalize r.neg = ng at *
 generalize r.exp = x at *
 have e1 : (p == p) = true := by simp
 have e2 : (m == m) = true := by simp
 have e3 : (z == z) = true := by simp
 have e4 : (ng == ng) = true := by simp
 have e5 : (x == x) = true := by simp
 have k0 : Kept w ((w.alloc (.cells #[.bool ng, .slice a N c, .int .i64 x, .bool p, .bool m, .bool z] 26)).alloc (.cells #[.bool ng, .slice b N d, .int .i64 x, .bool p, .bool m, .bool z] 26)) := ((Kept.refl w).alloc _ _).alloc _ _
 go_enter Tryz.func34, Tryz.ntmps34
 go_wp2_with fail
 refine (KE.out _ k0).mono ?_
 rintro e w1 ⟨rfl, k1⟩
 go_wp2_with fail
 go_ret
 exact ⟨rfl, k0.trans k1⟩
/- what an item brings -/
/- a sum that lies in a block of its own, its digits above a mark -/
structure Box (u : World) (lo B : Nat) (r : Nm) (p m z : Bool) (ao : Option Addr) (c : Nat) : Prop where
 c0 : u.cell? ⟨B, 0, none⟩ = some (.bool r.neg)
 c1 : u.cell? ⟨B, 1, none⟩ = some (.slice ao r.mag.length c)
 c2 : u.cell? ⟨B, 2, none⟩ = some (.int .i64 r.exp)
 c3 : u.cell? ⟨B, 3, none⟩ = some (.bool p)
 c4 : u.cell? ⟨B, 4, none⟩ = some (.bool m)
 c5 : u.cell? ⟨B, 5, none⟩ = some (.bool z)
 fz : ∀ o, u.frozen? ⟨B, o, none⟩ = false
 lt : B < u.heap.size
 hc : ao = none → c = 0
 sl : Sl u (.slice ao r.mag.length c) r.mag
 hi : ∀ b off, ao = some ⟨b, off, none⟩ → r.mag ≠ [] → lo ≤ b
theorem Box.kept {u u' : World} {lo B : Nat} {r : Nm} {p m z : Bool} {ao : Option Addr} {c : Nat} (h : Box u lo B r p m z ao c) (k : Kept u u') : Box u' lo B r p m z ao c :=
 ⟨(k.below.cell (p := ⟨B, 0, none⟩) h.lt).trans h.c0, (k.below.cell (p := ⟨B, 1, none⟩) h.lt).trans h.c1, (k.below.cell (p := ⟨B, 2, none⟩) h.lt).trans h.c2, (k.below.cell (p := ⟨B, 3, none⟩) h.lt).trans h.c3, (k.below.cell (p := ⟨B, 4, none⟩) h.lt).trans h.c4, (k.below.cell (p := ⟨B, 5, none⟩) h.lt).trans h.c5, fun o => (k.frozen _).trans (h.fz o), Nat.lt_of_lt_of_le h.lt k.below.size, h.hc, h.sl.kept k, h.hi⟩
theorem sl_other {u : World} {ao : Option Addr} {l c : Nat} {L : List Int} (h : Sl u (.slice ao l c) L) (p : Addr) (hp : ∀ b off, ao = some ⟨b, off, none⟩ → L ≠ [] → b ≠ p.block) (v : Value) : Sl (u.setCell p v) (.slice ao l c) L := by
 obtain ⟨a', c', e, h1, h2, hr⟩ := h
 cases e
 refine ⟨_, _, rfl, h1, h2, fun hne => ?_⟩
 obtain ⟨b, off, rfl, hb, hr⟩ := hr hne
 have hbp := hp b off rfl hne
 refine ⟨b, off, rfl, by simpa using hb, fun i hi => ?_⟩
 exact (World.cell?_of_block (a := ⟨b, off + i, none⟩) (Below.heap_setCell u p v b hbp)).trans (hr i hi)
theorem Box.other {u : World} {lo B : Nat} {r : Nm} {p m z : Bool} {ao : Option Addr} {c : Nat} (h : Box u lo B r p m z ao c) (q o : Nat) (hq : q ≠ B) (hl : q < lo) (v : Value) : Box (u.setCell ⟨q, o, none⟩ v) lo B r p m z ao c := by
 have hB : B ≠ (⟨q, o, none⟩ : Addr).block := fun e => hq e.symm
 have hcell : ∀ i, (u.setCell ⟨q, o, none⟩ v).cell? ⟨B, i, none⟩ = u.cell? ⟨B, i, none⟩ := fun i => World.cell?_of_block (a := ⟨B, i, none⟩) (Below.heap_setCell u ⟨q, o, none⟩ v B hB)
 exact ⟨(hcell 0).trans h.c0, (hcell 1).trans h.c1, (hcell 2).trans h.c2, (hcell 3).trans h.c3, (hcell 4).trans h.c4, (hcell 5).trans h.c5, fun i => by simpa using h.fz i, by simpa using h.lt, h.hc, sl_other h.sl _ (fun b off e hne => by have := h.hi b off e hne; dsimp only; omega) v, h.hi⟩
abbrev six (u : World) (B : Nat) (v0 v1 v2 v3 v4 v5 : Value) : World := (((((u.setCell ⟨B, 0, none⟩ v0).setCell ⟨B, 1, none⟩ v1).setCell ⟨B, 2, none⟩ v2).setCell ⟨B, 3, none⟩ v3).setCell ⟨B, 4, none⟩ v4).setCell ⟨B, 5, none⟩ v5
theorem Box.six {u : World} {lo B : Nat} {r : Nm} {p m z : Bool} {ao : Option Addr} {c : Nat} (h : Box u lo B r p m z ao c) (q : Nat) (hq : q ≠ B) (hl : q < lo) (v0 v1 v2 v3 v4 v5 : Value) : Box (six u q v0 v1 v2 v3 v4 v5) lo B r p m z ao c :=
 (((((h.other q 0 hq hl v0).other q 1 hq hl v1).other q 2 hq hl v2).other q 3 hq hl v3).other q 4 hq hl v4).other q 5 hq hl v5
theorem Box.new {x u : World} {lo B : Nat} {r q : Nm} {p m z : Bool} {ao : Option Addr} {c : Nat} (h : Box u lo B r p m z ao c) (hB : B < lo) (hx : lo ≤ x.heap.size) (vn : Bool) (va : Option Addr) (vl vc : Nat) (vx : Int) (hN : New x u (.agg #[.bool vn, .slice va vl vc, .int .i64 vx]) q) (P M Z : Bool) : Box (Go.Proofs.YtoflafgbbjinpaaGreatDoor.six u B (.bool vn) (.slice va vl vc) (.int .i64 vx) (.bool P) (.bool M) (.bool Z)) lo B q P M Z va vc := by
 obtain ⟨e1, e2, e3, e4, hs⟩ := hN.parts
 have hb : ∀ b off, va = some ⟨b, off, none⟩ → q.mag ≠ [] → lo ≤ b := fun b off e hne => by
  rcases hN with ⟨rfl, -⟩ | ⟨g, cap, e5, hg, ho, -⟩
  ·exact absurd rfl hne
  ·simp only [Value.agg.injEq, Array.mk.injEq, List.cons.injEq, Value.slice.injEq] at e5
   rw [e] at e5
   have := e5.2.1.1
   simp at this
   omega
 subst e1 e2 e3
 have hne : ∀ b off, va = some ⟨b, off, none⟩ → q.mag ≠ [] → b ≠ B := fun b off e hn => by have := hb b off e hn; omega
 have c0 := h.c0
 have c1 := h.c1
 have c2 := h.c2
 have c3 := h.c3
 have c4 := h.c4
 have c5 := h.c5
 refine ⟨by simp [go_sem, c0, c1, c2, c3, c4, c5], by simp [go_sem, c0, c1, c2, c3, c4, c5], by simp [go_sem, c0, c1, c2, c3, c4, c5], by simp [go_sem, c0, c1, c2, c3, c4, c5], by simp [go_sem, c0, c1, c2, c3, c4, c5], by simp [go_sem, c0, c1, c2, c3, c4, c5], fun o => by simpa using h.fz o, by simpa using h.lt, e4, ?_, hb⟩
 exact sl_other (sl_other (sl_other (sl_other (sl_other (sl_other hs _ hne _) _ hne _) _ hne _) _ hne _) _ hne _) _ hne _
/- the document's Plus, by values -/
theorem rlp_other {P : Nat → Prop} {u : World} {s : Value} {L : List Int} (h : RLp P u s L) (q o : Nat) (hq : ∀ c, P c → c ≠ q) (v : Value) : RLp P (u.setCell ⟨q, o, none⟩ v) s L := by
 obtain ⟨ao, c, rfl, hc, hs, hp⟩ := h
 exact ⟨ao, c, rfl, hc, sl_other hs _ (fun b off e hne => hq b (hp b off hne e)) v, hp⟩
theorem RLp.low {P : Nat → Prop} {u : World} {s : Value} {L : List Int} (h : RLp P u s L) : RLp (fun c => P c ∧ c < u.heap.size) u s L := by
 obtain ⟨ao, c, rfl, hc, hs, hp⟩ := h
 refine ⟨ao, c, rfl, hc, hs, fun b off hne e => ⟨hp b off hne e, ?_⟩⟩
 obtain ⟨a', c', e', h1, h2, hr⟩ := hs
 cases e'
 obtain ⟨b', off', e2, hb, -⟩ := hr hne
 rw [e] at e2
 cases e2
 exact hb
/- the document's AddOne of any pattern, by values -/
end Go.Proofs.YtoflafgbbjinpaaGreatDoor
