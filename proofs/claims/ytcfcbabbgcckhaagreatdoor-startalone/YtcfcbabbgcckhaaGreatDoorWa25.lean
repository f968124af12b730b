/- The ring's laws by values. The walks of the laws' own Same and SameNum at what is the same. Rows of the call's own whose cells may be of any type; append to them. The laws' own Num: some digits' low bits,an exponent brought to within a bound. Plain: the digits of a number,one by one: what the document's own NatAdd,NatSub,NatShl,NatShr,NatLow make. The walks of the document's own trim and NatLow. The walks of exact's pieces. The walk of exact's quotient at 1 by 3. The walk of exact's Quot at 1 by 3. A few values: 6 by 2,1,3,and 1 - 3. The walk of the laws' own test of life. The ring's laws by values; the laws' own num. The walk of the statement on the ring. -/
import Derived.Test.YtcfcbabbgcckhaaGreatDoorWa16
import Derived.Test.YtcfcbabbgcckhaaGreatDoorWa07
import Derived.Test.YtcfcbabbgcckhaaGreatDoorWa12
import Derived.Deep.AppendSrc
import Derived.Deep.Upon
import Derived.Test.YtcfcbabbgcckhaaGreatDoorWa13
import Derived.Deep.Cut
import Derived.Test.YtcfcbabbgcckhaaGreatDoorWa11
import Derived.Laws.EntriesVeiled
import Derived.Test.YtcfcbabbgcckhaaGreatDoorWa14
import Derived.OwnWalk
import Derived.Laws.OwnMore
import Derived.Test.YtcfcbabbgcckhaaGreatDoorWa20
namespace Go.Proofs.YtcfcbabbgcckhaaGreatDoor
open Go.ChangeShapes Go.WideShapes Go.ChangeAt Go.RowKit
set_option maxHeartbeats 16000000
set_option maxRecDepth 100000
set_option linter.unusedVariables false
set_option linter.unusedSimpArgs false
theorem Lies.mono {s : Int} {B C : Nat} {a : Nm} (h : Lies s B a) (hBC : B ≤ C) : Lies s C a:=⟨h.ok,h.low,Nat.lt_of_lt_of_le h.lt (Nat.pow_le_pow_right (by decide) hBC)⟩
theorem vz_ng (s : Int) (a : Nm) : vz s (ng a) = -vz s a:=by
 unfold vz ng
 dsimp only
 cases a.neg <;> simp [sg]
theorem sub_cfm (s : Int) (B : Nat) (hB : B ≤ 60000) (a b : Nm) (ha : Lies s B a) (hb : Lies s B b) : addZ a (ng b) = cfm (vz s a - vz s b) s:=by
 by_cases hne : b.mag = []
 ·obtain ⟨n2,L2,x2⟩:=b
  dsimp only at hne
  subst hne
  obtain ⟨n1,L1,x1⟩:=a
  rw [vz_nil,Int.sub_zero,vz_cfm s n1 L1 x1 ha.ok ha.low]
  unfold addZ ng
  dsimp only
  by_cases h1 : L1 = []
  ·subst h1
   obtain ⟨rfl,rfl⟩:=vld_nil _ _ ha.ok
   simp
  ·simp [h1]
 ·have hb' : Lies s B (ng b):=⟨vld_ng b.neg b.mag b.exp hb.ok hne,hb.low,by rw [vz_ng,Int.natAbs_neg]; exact hb.lt⟩
  rw [add_cfm s B hB a (ng b) ha hb',vz_ng,Int.sub_eq_add_neg]
theorem frm_cfm (n : Bool) (v : Nat) (y : Int) : frm n v y = cfm (sg n (v : Int)) y:=by
 by_cases h : v = 0
 ·subst h
  rw [show sg n ((0 : Nat) : Int) = 0 by cases n <;> rfl,cfm_zero]
  simp [frm]
 ·have hsg:=sg_neg n (v : Int) (by omega)
  unfold cfm
  rw [hsg.1,hsg.2,Int.toNat_natCast]
end Go.Proofs.YtcfcbabbgcckhaaGreatDoor

namespace Go.Proofs.YtcfcbabbgcckhaaGreatDoor
open Go.ChangeShapes Go.WideShapes Go.ChangeAt Go.RowKit
set_option maxHeartbeats 16000000
set_option maxRecDepth 100000
set_option linter.unusedVariables false
set_option linter.unusedSimpArgs false
end Go.Proofs.YtcfcbabbgcckhaaGreatDoor

namespace Go.Proofs.YtcfcbabbgcckhaaGreatDoor
open Go.ChangeShapes Go.WideShapes Go.ChangeAt Go.RowKit
set_option maxHeartbeats 16000000
set_option maxRecDepth 100000
set_option linter.unusedVariables false
set_option linter.unusedSimpArgs false
def OwnV (w : World) (g cap : Nat) (e : TypeId) (V : List Value) : Prop:=∃ cur,w.heap[g]? = some (.cells cur e (0,0)) ∧ V.length ≤ cap ∧ cap ≤ maxLen ∧ cur.size = cap ∧ cur.toList.take V.length = V
theorem OwnV.lt {w : World} {g cap : Nat} {e : TypeId} {V : List Value} (h : OwnV w g cap e V) : g < w.heap.size:=by
 obtain ⟨cur,hg,-⟩:=h
 exact lt_of_block hg
theorem OwnV.kept {w w' : World} {g cap : Nat} {e : TypeId} {V : List Value} (h : OwnV w g cap e V) (k : Kept w w') : OwnV w' g cap e V:=by
 have hl:=h.lt
 obtain ⟨cur,hg,r⟩:=h
 exact ⟨cur,(k.below.block g hl).trans hg,r⟩
theorem OwnV.grw {w w' : World} {g g' cap : Nat} {e : TypeId} {V : List Value} (h : OwnV w g cap e V) (k : Grw g' w w') (hne : g ≠ g') : OwnV w' g cap e V:=by
 have hl:=h.lt
 obtain ⟨cur,hg,r⟩:=h
 exact ⟨cur,(k.grown.block g hl (by simpa using hne)).trans hg,r⟩
theorem OwnV.setOther {w : World} {g cap : Nat} {e : TypeId} {V : List Value} (h : OwnV w g cap e V) {p : Addr} (hp : g ≠ p.block) (u : Value) : OwnV (w.setCell p u) g cap e V:=by
 obtain ⟨cur,hg,r⟩:=h
 exact ⟨cur,(Below.heap_setCell w p u g hp).trans hg,r⟩
theorem OwnV.cell {w : World} {g cap : Nat} {e : TypeId} {V : List Value} (h : OwnV w g cap e V) (i : Nat) (x : Value) (hi : V[i]? = some x) : w.cell? ⟨g,i,none⟩ = some x:=by
 obtain ⟨cur,hg,h1,h2,h3,h4⟩:=h
 rw [cell_of_row w g i cur e (0,0) hg]
 rw [← h4,List.getElem?_take] at hi
 split at hi
 ·simpa using hi
 ·cases hi
theorem OwnV.some {w : World} {g cap : Nat} {e : TypeId} {V : List Value} (h : OwnV w g cap e V) (i : Nat) (hi : i < cap) : (w.cell? ⟨g,i,none⟩).isSome = true:=by
 obtain ⟨cur,hg,h1,h2,h3,h4⟩:=h
 rw [cell_of_row w g i cur e (0,0) hg]
 simp
 omega
theorem OwnV.free {w : World} {g cap : Nat} {e : TypeId} {V : List Value} (h : OwnV w g cap e V) (i : Nat) : w.frozen? ⟨g,i,none⟩ = false:=by
 obtain ⟨cur,hg,-⟩:=h
 exact frozen_of_row w g i cur e hg
theorem OwnV.set {w : World} {g cap : Nat} {e : TypeId} {V : List Value} (h : OwnV w g cap e V) (i : Nat) (x : Value) : OwnV (w.setCell ⟨g,i,none⟩ x) g cap e (V.set i x):=by
 obtain ⟨cur,hg,h1,h2,h3,h4⟩:=h
 refine ⟨cur.setIfInBounds i x,heap_setCell_same w g i cur e _ hg,by simpa using h1,h2,by simpa using h3,?_⟩
 rw [Array.toList_setIfInBounds,List.length_set,List.take_set,h4]
theorem OwnV.push {w : World} {g cap : Nat} {e : TypeId} {V : List Value} (h : OwnV w g cap e V) (hi : V.length < cap) (x : Value) : OwnV (w.setCell ⟨g,V.length,none⟩ x) g cap e (V ++ [x]):=by
 obtain ⟨cur,hg,h1,h2,h3,h4⟩:=h
 refine ⟨cur.setIfInBounds V.length x,heap_setCell_same w g V.length cur e _ hg,by simp; omega,h2,by simpa using h3,?_⟩
 rw [Array.toList_setIfInBounds,List.length_append,List.length_singleton,List.take_set,List.take_add_one,h4]
 have : (cur.toList)[V.length]? = Option.some (cur.toList[V.length]'(by simp; omega)):=List.getElem?_eq_getElem _
 rw [this,List.set_append_right _ _ (by omega),Nat.sub_self]
 rfl
theorem OwnV.pushes {g cap : Nat} {e : TypeId} (news : List Value) : ∀ {w : World} {V : List Value} (h : OwnV w g cap e V) (hi : V.length + news.length ≤ cap),OwnV (w.setCells g V.length news) g cap e (V ++ news):=by
 induction news with
 | nil => intro w V h hi; simpa [World.setCells] using h
 | cons x r ih =>
  intro w V h hi
  simp only [List.length_cons] at hi
  have h2:=h.push (by omega) x
  have:=ih h2 (by simp; omega)
  rw [List.length_append,List.length_singleton] at this
  rw [World.setCells]
  simpa using this
theorem Grw.setCells {g : Nat} {a : World} (news : List Value) : ∀ {b : World} (h : Grw g a b) (o : Nat),Grw g a (b.setCells g o news):=by
 induction news with
 | nil => intro b h o; exact h
 | cons x r ih => intro b h o; exact ih (h.setCell o x) (o + 1)
end Go.Proofs.YtcfcbabbgcckhaaGreatDoor
namespace Go.Proofs.YtcfcbabbgcckhaaGreatDoor
open Go.ChangeShapes Go.WideShapes Go.ChangeAt Go.RowKit
set_option maxHeartbeats 16000000
set_option maxRecDepth 100000
set_option linter.unusedVariables false
set_option linter.unusedSimpArgs false
def MR (H : Nat) (w : World) (v : Value) (M : List Int) : Prop:=(M = [] ∧ v = .slice none 0 0) ∨ ∃ g cap,v = .slice (some ⟨g,0,none⟩) M.length cap ∧ H ≤ g ∧ Own w g cap M
theorem MR.kept {H : Nat} {w w' : World} {v : Value} {M : List Int} (h : MR H w v M) (k : Kept w w') : MR H w' v M:=by
 rcases h with h | ⟨g,cap,e,hg,ho⟩
 ·exact .inl h
 ·exact .inr ⟨g,cap,e,hg,ho.kept k⟩
theorem MR.sl {H : Nat} {w : World} {v : Value} {M : List Int} (h : MR H w v M) : ∃ ao c,v = .slice ao M.length c ∧ (ao = none → c = 0) ∧ Sl w (.slice ao M.length c) M:=by
 rcases h with ⟨rfl,rfl⟩ | ⟨g,cap,rfl,hg,ho⟩
 ·exact ⟨none,0,rfl,fun _ => rfl,none,0,rfl,Nat.le_refl _,by simp [maxLen],fun h => absurd rfl h⟩
 ·exact ⟨_,_,rfl,fun h => by simp at h,ho.sl⟩
end Go.Proofs.YtcfcbabbgcckhaaGreatDoor
namespace Go.Proofs.YtcfcbabbgcckhaaGreatDoor
open Go.ChangeShapes Go.WideShapes Go.ChangeAt Go.RowKit
set_option maxHeartbeats 16000000
set_option maxRecDepth 100000
set_option linter.unusedVariables false
set_option linter.unusedSimpArgs false
end Go.Proofs.YtcfcbabbgcckhaaGreatDoor
namespace Go.Proofs.YtcfcbabbgcckhaaGreatDoor
open Go.ChangeShapes Go.WideShapes Go.ChangeAt Go.RowKit
set_option maxHeartbeats 16000000
set_option maxRecDepth 100000
set_option linter.unusedVariables false
set_option linter.unusedSimpArgs false
/-- A list that can be read. -/
def RL (w : World) (v : Value) (M : List Int) : Prop:=∃ ao c,v = .slice ao M.length c ∧ (ao = none → c = 0) ∧ Sl w (.slice ao M.length c) M
theorem RL.kept {w w' : World} {v : Value} {M : List Int} (h : RL w v M) (k : Kept w w') : RL w' v M:=by
 obtain ⟨ao,c,e,hc,hs⟩:=h
 exact ⟨ao,c,e,hc,hs.kept k⟩
theorem RL.nil (w : World) : RL w (.slice none 0 0) []:=⟨none,0,rfl,fun _ => rfl,none,0,rfl,Nat.le_refl _,by simp [maxLen],fun h => absurd rfl h⟩
/-- A list that can be read,with what is known of where it lies. -/
def RLp (P : Nat → Prop) (w : World) (v : Value) (M : List Int) : Prop:=∃ ao c,v = .slice ao M.length c ∧ (ao = none → c = 0) ∧ Sl w (.slice ao M.length c) M ∧ ∀ b off,M ≠ [] → ao = some ⟨b,off,none⟩ → P b
theorem RLp.kept {P : Nat → Prop} {w w' : World} {v : Value} {M : List Int} (h : RLp P w v M) (k : Kept w w') : RLp P w' v M:=by
 obtain ⟨ao,c,e,hc,hs,hp⟩:=h
 exact ⟨ao,c,e,hc,hs.kept k,hp⟩
theorem RLp.nil (P : Nat → Prop) (w : World) : RLp P w (.slice none 0 0) []:=⟨none,0,rfl,fun _ => rfl,⟨none,0,rfl,Nat.le_refl _,by simp [maxLen],fun h => absurd rfl h⟩,fun b off h => absurd rfl h⟩
theorem RL.at {w : World} {v : Value} {M : List Int} (h : RL w v M) : ∃ ao c,v = .slice ao M.length c ∧ (ao = none → c = 0) ∧ ∀ u,Kept w u → RL u v M ∧ ∀ i,i < M.length → ∃ b off,ao = some ⟨b,off,none⟩ ∧ u.cell? ⟨b,off + i,none⟩ = some (.int .i64 (M.getD i 0)):=by
 obtain ⟨ao,c,rfl,hc,hs⟩:=h
 refine ⟨ao,c,rfl,hc,fun u k => ⟨⟨ao,c,rfl,hc,hs.kept k⟩,fun i hi => ?_⟩⟩
 obtain ⟨ao',cap,e,h1,h2,hr⟩:=hs.kept k
 cases e
 have hne : M ≠ []:=by intro e; subst e; simp at hi
 obtain ⟨b,off,rfl,hb,hr⟩:=hr hne
 exact ⟨b,off,rfl,hr i hi⟩
end Go.Proofs.YtcfcbabbgcckhaaGreatDoor

namespace Go.Proofs.YtcfcbabbgcckhaaGreatDoor
open Go.ChangeShapes Go.WideShapes Go.ChangeAt Go.RowKit
set_option maxHeartbeats 16000000
set_option maxRecDepth 100000
set_option linter.unusedVariables false
set_option linter.unusedSimpArgs false
/-! ### pieces -/
end Go.Proofs.YtcfcbabbgcckhaaGreatDoor
namespace Go.Proofs.YtcfcbabbgcckhaaGreatDoor
open Go.ChangeShapes Go.WideShapes Go.ChangeAt Go.RowKit
set_option maxHeartbeats 16000000
set_option maxRecDepth 100000
set_option linter.unusedVariables false
set_option linter.unusedSimpArgs false
abbrev third : Value:=.agg #[.bool false,.int .i64 768614336404564650,.int .i64 (-61),.bool true]
end Go.Proofs.YtcfcbabbgcckhaaGreatDoor

namespace Go.Proofs.YtcfcbabbgcckhaaGreatDoor
open Go.ChangeShapes Go.WideShapes Go.ChangeAt Go.RowKit
set_option maxHeartbeats 16000000
set_option maxRecDepth 100000
set_option linter.unusedVariables false
set_option linter.unusedSimpArgs false
end Go.Proofs.YtcfcbabbgcckhaaGreatDoor
namespace Go.Proofs.YtcfcbabbgcckhaaGreatDoor
open Go.RowKit
set_option maxHeartbeats 16000000
set_option maxRecDepth 100000
end Go.Proofs.YtcfcbabbgcckhaaGreatDoor
namespace Go.Proofs.YtcfcbabbgcckhaaGreatDoor
open Go.ChangeShapes Go.WideShapes Go.ChangeAt Go.RowKit
set_option maxHeartbeats 16000000
set_option maxRecDepth 100000
set_option linter.unusedVariables false
set_option linter.unusedSimpArgs false
theorem New.some {w0 w : World} {v : Value} {neg : Bool} {d : Int} {x : Int} (h : New w0 w v ⟨neg,[d],x⟩) : ∃ g cap,v = .agg #[.bool neg,.slice (some ⟨g,0,none⟩) 1 cap,.int .i64 x] ∧ w0.heap.size ≤ g ∧ Own w g cap [d]:=by
 rcases h with ⟨h,-⟩ | ⟨g,cap,e,hg,ho,-⟩
 ·cases h
 ·exact ⟨g,cap,e,hg,ho⟩
end Go.Proofs.YtcfcbabbgcckhaaGreatDoor

namespace Go.Proofs.YtcfcbabbgcckhaaGreatDoor
open Go.ChangeShapes Go.WideShapes Go.ChangeAt Go.RowKit
set_option maxHeartbeats 16000000
set_option maxRecDepth 100000
set_option linter.unusedVariables false
set_option linter.unusedSimpArgs false
/-! ### Calls whose numbers lie somewhere -/
end Go.Proofs.YtcfcbabbgcckhaaGreatDoor
namespace Go.Proofs.YtcfcbabbgcckhaaGreatDoor
open Go.ChangeShapes Go.WideShapes Go.ChangeAt Go.RowKit
set_option maxHeartbeats 16000000
set_option maxRecDepth 100000
set_option linter.unusedVariables false
set_option linter.unusedSimpArgs false
end Go.Proofs.YtcfcbabbgcckhaaGreatDoor
