/- Rows of the call's own whose cells may be of any type; append to them. The laws' own Num: some digits' low bits,an exponent brought to within a bound. Plain: the digits of a number,one by one: what the document's own NatAdd,NatSub,NatShl,NatShr,NatLow make. The walks of the document's own trim and NatLow. Long division,plainly. -/
import Derived.Test.YtnniljhdcplkgaaGreatDoorWr14
import Derived.Test.YtnniljhdcplkgaaGreatDoorWr24
import Derived.Deep.AppendSrc
import Derived.Deep.Upon
import Derived.Test.YtnniljhdcplkgaaGreatDoorWr15
import Derived.Deep.Cut
import Derived.Test.YtnniljhdcplkgaaGreatDoorWr23
namespace Go.Proofs.YtnniljhdcplkgaaGreatDoor
open Go.ChangeShapes Go.WideShapes Go.ChangeAt Go.RowKit
set_option maxHeartbeats 16000000
set_option maxRecDepth 100000
set_option linter.unusedVariables false
set_option linter.unusedSimpArgs false
def OwnV (w : World) (g cap : Nat) (e : TypeId) (V : List Value) : Prop:=∃ cur,w.heap[g]? = some (.cells cur e (0,0)) ∧ V.length ≤ cap ∧ cap ≤ maxLen ∧ cur.size = cap ∧ cur.toList.take V.length = V
theorem own_v {w : World} {g cap : Nat} {L : List Int} : Own w g cap L ↔ OwnV w g cap 3 (L.map (Value.int .i64)):=by
 unfold Own OwnV
 simp only [List.length_map]
theorem OwnV.lt {w : World} {g cap : Nat} {e : TypeId} {V : List Value} (h : OwnV w g cap e V) : g < w.heap.size:=by
 obtain ⟨cur,hg,-⟩:=h
 exact lt_of_block hg
theorem OwnV.kept {w w' : World} {g cap : Nat} {e : TypeId} {V : List Value} (h : OwnV w g cap e V) (k : Kept w w') : OwnV w' g cap e V:=by
 have hl:=h.lt
 obtain ⟨cur,hg,r⟩:=h
 exact ⟨cur,(k.below.block g hl).trans hg,r⟩
theorem OwnV.grw {w w' : World} {g g' cap : Nat} {e : TypeId} {V : List Value} (h : OwnV w g cap e V) (k : Grw g' w w') (hne : g ≠ g') : OwnV w' g cap e V:=by
 have hl:=h.lt
 obtain ⟨cur,hg,r⟩:=h
 exact ⟨cur,(k.grown.block g hl (by simpa using hne)).trans hg,r⟩
theorem OwnV.setOther {w : World} {g cap : Nat} {e : TypeId} {V : List Value} (h : OwnV w g cap e V) {p : Addr} (hp : g ≠ p.block) (u : Value) : OwnV (w.setCell p u) g cap e V:=by
 obtain ⟨cur,hg,r⟩:=h
 exact ⟨cur,(Below.heap_setCell w p u g hp).trans hg,r⟩
theorem OwnV.cell {w : World} {g cap : Nat} {e : TypeId} {V : List Value} (h : OwnV w g cap e V) (i : Nat) (x : Value) (hi : V[i]? = some x) : w.cell? ⟨g,i,none⟩ = some x:=by
 obtain ⟨cur,hg,h1,h2,h3,h4⟩:=h
 rw [cell_of_row w g i cur e (0,0) hg]
 rw [← h4,List.getElem?_take] at hi
 split at hi
 ·simpa using hi
 ·cases hi
theorem OwnV.some {w : World} {g cap : Nat} {e : TypeId} {V : List Value} (h : OwnV w g cap e V) (i : Nat) (hi : i < cap) : (w.cell? ⟨g,i,none⟩).isSome = true:=by
 obtain ⟨cur,hg,h1,h2,h3,h4⟩:=h
 rw [cell_of_row w g i cur e (0,0) hg]
 simp
 omega
theorem OwnV.free {w : World} {g cap : Nat} {e : TypeId} {V : List Value} (h : OwnV w g cap e V) (i : Nat) : w.frozen? ⟨g,i,none⟩ = false:=by
 obtain ⟨cur,hg,-⟩:=h
 exact frozen_of_row w g i cur e hg
theorem OwnV.set {w : World} {g cap : Nat} {e : TypeId} {V : List Value} (h : OwnV w g cap e V) (i : Nat) (x : Value) : OwnV (w.setCell ⟨g,i,none⟩ x) g cap e (V.set i x):=by
 obtain ⟨cur,hg,h1,h2,h3,h4⟩:=h
 refine ⟨cur.setIfInBounds i x,heap_setCell_same w g i cur e _ hg,by simpa using h1,h2,by simpa using h3,?_⟩
 rw [Array.toList_setIfInBounds,List.length_set,List.take_set,h4]
theorem OwnV.push {w : World} {g cap : Nat} {e : TypeId} {V : List Value} (h : OwnV w g cap e V) (hi : V.length < cap) (x : Value) : OwnV (w.setCell ⟨g,V.length,none⟩ x) g cap e (V ++ [x]):=by
 obtain ⟨cur,hg,h1,h2,h3,h4⟩:=h
 refine ⟨cur.setIfInBounds V.length x,heap_setCell_same w g V.length cur e _ hg,by simp; omega,h2,by simpa using h3,?_⟩
 rw [Array.toList_setIfInBounds,List.length_append,List.length_singleton,List.take_set,List.take_add_one,h4]
 have : (cur.toList)[V.length]? = Option.some (cur.toList[V.length]'(by simp; omega)):=List.getElem?_eq_getElem _
 rw [this,List.set_append_right _ _ (by omega),Nat.sub_self]
 rfl
theorem OwnV.pushes {g cap : Nat} {e : TypeId} (news : List Value) : ∀ {w : World} {V : List Value} (h : OwnV w g cap e V) (hi : V.length + news.length ≤ cap),OwnV (w.setCells g V.length news) g cap e (V ++ news):=by
 induction news with
 | nil => intro w V h hi; simpa [World.setCells] using h
 | cons x r ih =>
  intro w V h hi
  simp only [List.length_cons] at hi
  have h2:=h.push (by omega) x
  have:=ih h2 (by simp; omega)
  rw [List.length_append,List.length_singleton] at this
  rw [World.setCells]
  simpa using this
theorem Grw.setCells {g : Nat} {a : World} (news : List Value) : ∀ {b : World} (h : Grw g a b) (o : Nat),Grw g a (b.setCells g o news):=by
 induction news with
 | nil => intro b h o; exact h
 | cons x r ih => intro b h o; exact ih (h.setCell o x) (o + 1)
theorem ownV_new (w : World) (e : TypeId) (z : Value) (hz : z.cells.size = 1) (V : List Value) (cap : Nat) (h1 : V.length ≤ cap) (h2 : cap ≤ maxLen) : OwnV (w.alloc (.cells (V.toArray ++ Builtin.zeroCells z.cells (cap - V.length)) e)) w.heap.size cap e V:=by
 refine ⟨_,heap_alloc_new w _,h1,h2,?_,?_⟩
 ·simp [size_zeroCells,hz]; omega
 ·simp
/-- A row of one's own,or none yet. -/
def Rw (w : World) (v : Value) (e : TypeId) (V : List Value) : Prop:=(V = [] ∧ v = .slice none 0 0) ∨ ∃ g cap,v = .slice (some ⟨g,0,none⟩) V.length cap ∧ OwnV w g cap e V
/-- Append: in place,or to a new row. -/
theorem app_gen (t e : TypeId) (ht : Tryz.prog.underlying t = some (.slice e)) (z : Value) (by8 : Nat) (hinf : (Tryz.prog.info? e).map (fun i => (i.zero,i.size,i.bytes)) = some (some z,1,by8)) (hz : z.cells.size = 1) (hby : by8 ≤ 24)
  (w : World) (v : Value) (olds news : List Value) (hv : Rw w v e olds) (ad : Addr) (m c : Nat) (hl : news.length = m) (hnews : ∀ j u,news[j]? = some u → w.cell? (ad.add j) = some u) (h1 : ∀ u ∈ news,u.oneCell' = true) (hm : 0 < m) (hsz : olds.length + m < 100000000) :
  ∃ g cap w',(∀ ty,(Builtin.append_ #[t,t] ty #[v,.slice (some ad) m c]).run Tryz.prog w = .ok (.slice (some ⟨g,0,none⟩) (olds.length + m) cap) w') ∧ OwnV w' g cap e (olds ++ news) ∧ ((g = w.heap.size ∧ Kept w w') ∨ (v = .slice (some ⟨g,0,none⟩) olds.length cap ∧ Grw g w w')):=by
 obtain ⟨i,hi,hz2,hs,hb⟩:=info_parts hinf
 have hS : Src Tryz.prog i.size t (.slice (some ad) m c) m news w:=Src.ofSlice w ht ad m c news (by rw [hs]; omega) hnews h1
 rcases hv with ⟨rfl,rfl⟩ | ⟨g,cap,rfl,hO⟩
 ·obtain ⟨C,hC⟩ : ∃ C,grownCap w (0 + m) 0 e = C:=⟨_,rfl⟩
  have hC1 : 0 + m ≤ C:=by rw [← hC]; exact grownCap_ge _ _ _ _
  have hC2 : C ≤ maxLen:=by rw [← hC]; exact grownCap_le_maxLen _ _ _ _ (by simp [maxLen] at *; omega)
  have hO:=ownV_new w.drew e z hz news C (by omega) hC2
  have hK : Kept w (w.drew.alloc (.cells (news.toArray ++ Builtin.zeroCells z.cells (C - news.length)) e)):=(Kept.refl w).drew.alloc _ _
  refine ⟨w.heap.size,C,_,fun ty => ?_,by simpa using hO,.inl ⟨rfl,hK⟩⟩
  have:=run_append_grow_src w t t ty e i z ht hi hz2 none 0 0 [] (by simpa using run_firstCells_none (P:=Tryz.prog) w.drew i.size 0 0 0) (.slice (some ad) m c) m news hS (by omega) (by omega) (growslice_fits (by omega) (by rw [hb]; simp only [List.length_nil] at hsz; exact Nat.le_trans (Nat.mul_le_mul_left _ hby) (by omega)))
  rw [hC] at this
  rw [this]
  simp [hl]
 ·by_cases hr : olds.length + m ≤ cap
  ·refine ⟨g,cap,w.setCells g olds.length news,fun ty => ?_,hO.pushes news (by omega),.inr ⟨rfl,(Grw.refl g w).setCells news _⟩⟩
   have:=run_append_room_src w t t ty e i ht hi g 0 olds.length cap (.slice (some ad) m c) m news hS hr (fun j hj => hO.some _ (by rw [hs]; omega)) (fun j hj => hO.free _)
   rw [this,hs]
   simp
  ·obtain ⟨C,hC⟩ : ∃ C,grownCap w (olds.length + m) cap e = C:=⟨_,rfl⟩
   have hC1 : olds.length + m ≤ C:=by rw [← hC]; exact grownCap_ge _ _ _ _
   have hC2 : C ≤ maxLen:=by rw [← hC]; exact grownCap_le_maxLen _ _ _ _ (by simp [maxLen]; omega)
   have hO2:=ownV_new w.drew e z hz (olds ++ news) C (by rw [List.length_append]; omega) hC2
   have hK : Kept w (w.drew.alloc (.cells ((olds ++ news).toArray ++ Builtin.zeroCells z.cells (C - (olds ++ news).length)) e)):=(Kept.refl w).drew.alloc _ _
   refine ⟨w.heap.size,C,_,fun ty => ?_,by simpa using hO2,.inl ⟨rfl,hK⟩⟩
   have hcl : cap < olds.length + m:=by omega
   have:=run_append_grow_src w t t ty e i z ht hi hz2 (some ⟨g,0,none⟩) olds.length cap olds (run_firstCells_some (P:=Tryz.prog) w.drew i.size olds.length ⟨g,0,none⟩ olds.length cap olds (by rw [hs]; omega) (fun j u hu => by rw [Addr.add_lit,Nat.zero_add]; exact hO.cell j u hu)) (.slice (some ad) m c) m news hS hcl (by omega) (growslice_fits hcl (by rw [hb]; exact Nat.le_trans (Nat.mul_le_mul_left _ hby) (by omega)))
   rw [hC] at this
   rw [this]
   simp [hl]
end Go.Proofs.YtnniljhdcplkgaaGreatDoor
namespace Go.Proofs.YtnniljhdcplkgaaGreatDoor
open Go.ChangeShapes Go.WideShapes Go.ChangeAt Go.RowKit
set_option maxHeartbeats 16000000
set_option maxRecDepth 100000
set_option linter.unusedVariables false
set_option linter.unusedSimpArgs false
def MR (H : Nat) (w : World) (v : Value) (M : List Int) : Prop:=(M = [] ∧ v = .slice none 0 0) ∨ ∃ g cap,v = .slice (some ⟨g,0,none⟩) M.length cap ∧ H ≤ g ∧ Own w g cap M
theorem MR.kept {H : Nat} {w w' : World} {v : Value} {M : List Int} (h : MR H w v M) (k : Kept w w') : MR H w' v M:=by
 rcases h with h | ⟨g,cap,e,hg,ho⟩
 ·exact .inl h
 ·exact .inr ⟨g,cap,e,hg,ho.kept k⟩
theorem MR.sl {H : Nat} {w : World} {v : Value} {M : List Int} (h : MR H w v M) : ∃ ao c,v = .slice ao M.length c ∧ (ao = none → c = 0) ∧ Sl w (.slice ao M.length c) M:=by
 rcases h with ⟨rfl,rfl⟩ | ⟨g,cap,rfl,hg,ho⟩
 ·exact ⟨none,0,rfl,fun _ => rfl,none,0,rfl,Nat.le_refl _,by simp [maxLen],fun h => absurd rfl h⟩
 ·exact ⟨_,_,rfl,fun h => by simp at h,ho.sl⟩
theorem app_step (H : Nat) (wr : World) (lv : Value) (M : List Int) (hM : MR H wr lv M) (d : Int) (hH : H ≤ wr.heap.size) (hlen : M.length < 10000000) : ∃ v' w',(∀ ty,(Builtin.append_ #[24,24] ty #[lv,.slice (some ⟨wr.heap.size,0,none⟩) 1 1]).run Tryz.prog (wr.alloc (.cells #[.int .i64 d] 3)) = .ok v' w') ∧ MR H w' v' (M ++ [d]) ∧ (∀ W : World,W.heap.size ≤ H → Kept W wr → Kept W w'):=by
 have hK : Kept wr (wr.alloc (.cells #[.int .i64 d] 3)):=(Kept.refl _).alloc _ _
 have hR : Rw (wr.alloc (.cells #[.int .i64 d] 3)) lv 3 (M.map (Value.int .i64)):=by
  rcases hM with ⟨rfl,rfl⟩ | ⟨g,cap,rfl,hg,ho⟩
  ·exact .inl ⟨rfl,rfl⟩
  ·exact .inr ⟨g,cap,by rw [List.length_map],own_v.1 (ho.kept hK)⟩
 obtain ⟨g,cap,w',hr,ho,hk⟩:=app_gen 24 3 li_under (.int .i64 0) 8 int_info (by rfl) (by decide) (wr.alloc (.cells #[.int .i64 d] 3)) lv (M.map (Value.int .i64)) [.int .i64 d] hR ⟨wr.heap.size,0,none⟩ 1 1 rfl (fun j u hj => by
  rcases j with _ | j
  ·cases hj
   simp [go_sem]
  ·simp at hj) (fun u hu => by rw [List.mem_singleton.1 hu]; rfl) (by decide) (by rw [List.length_map]; omega)
 rw [List.length_map] at hr
 have hO : Own w' g cap (M ++ [d]):=own_v.2 (by rw [List.map_append]; exact ho)
 refine ⟨_,w',hr,.inr ⟨g,cap,by rw [List.length_append]; rfl,?_,hO⟩,?_⟩
 ·rcases hk with ⟨e,-⟩ | ⟨e,-⟩
  ·rw [e]; simp; omega
  ·rcases hM with ⟨-,rfl⟩ | ⟨g0,cap0,rfl,hg,-⟩
   ·simp at e
   ·have e' : g0 = g:=by simp at e; exact e.1
    omega
 ·intro W hW k
  rcases hk with ⟨e,kk⟩ | ⟨e,gg⟩
  ·exact (k.trans hK).trans kk
  ·refine (k.trans hK).grw ?_ gg
   rcases hM with ⟨-,rfl⟩ | ⟨g0,cap0,rfl,hg,-⟩
   ·simp at e
   ·have e' : g0 = g:=by simp at e; exact e.1
    omega
end Go.Proofs.YtnniljhdcplkgaaGreatDoor
namespace Go.Proofs.YtnniljhdcplkgaaGreatDoor
open Go.ChangeShapes Go.WideShapes Go.ChangeAt Go.RowKit
set_option maxHeartbeats 16000000
set_option maxRecDepth 100000
set_option linter.unusedVariables false
set_option linter.unusedSimpArgs false
def dl (V : Nat) : Nat → List Int
 | 0 => []
 | c + 1 => dl V c ++ [((V / 2 ^ (30 * c) % 1073741824 : Nat) : Int)]
end Go.Proofs.YtnniljhdcplkgaaGreatDoor
namespace Go.Proofs.YtnniljhdcplkgaaGreatDoor
open Go.ChangeShapes Go.WideShapes Go.ChangeAt Go.RowKit
set_option maxHeartbeats 16000000
set_option maxRecDepth 100000
set_option linter.unusedVariables false
set_option linter.unusedSimpArgs false
/-- A list that can be read. -/
def RL (w : World) (v : Value) (M : List Int) : Prop:=∃ ao c,v = .slice ao M.length c ∧ (ao = none → c = 0) ∧ Sl w (.slice ao M.length c) M
theorem RL.kept {w w' : World} {v : Value} {M : List Int} (h : RL w v M) (k : Kept w w') : RL w' v M:=by
 obtain ⟨ao,c,e,hc,hs⟩:=h
 exact ⟨ao,c,e,hc,hs.kept k⟩
theorem RL.nil (w : World) : RL w (.slice none 0 0) []:=⟨none,0,rfl,fun _ => rfl,none,0,rfl,Nat.le_refl _,by simp [maxLen],fun h => absurd rfl h⟩
/-- A list that can be read,with what is known of where it lies. -/
def RLp (P : Nat → Prop) (w : World) (v : Value) (M : List Int) : Prop:=∃ ao c,v = .slice ao M.length c ∧ (ao = none → c = 0) ∧ Sl w (.slice ao M.length c) M ∧ ∀ b off,M ≠ [] → ao = some ⟨b,off,none⟩ → P b
theorem RLp.kept {P : Nat → Prop} {w w' : World} {v : Value} {M : List Int} (h : RLp P w v M) (k : Kept w w') : RLp P w' v M:=by
 obtain ⟨ao,c,e,hc,hs,hp⟩:=h
 exact ⟨ao,c,e,hc,hs.kept k,hp⟩
theorem RLp.nil (P : Nat → Prop) (w : World) : RLp P w (.slice none 0 0) []:=⟨none,0,rfl,fun _ => rfl,⟨none,0,rfl,Nat.le_refl _,by simp [maxLen],fun h => absurd rfl h⟩,fun b off h => absurd rfl h⟩
theorem RL.at {w : World} {v : Value} {M : List Int} (h : RL w v M) : ∃ ao c,v = .slice ao M.length c ∧ (ao = none → c = 0) ∧ ∀ u,Kept w u → RL u v M ∧ ∀ i,i < M.length → ∃ b off,ao = some ⟨b,off,none⟩ ∧ u.cell? ⟨b,off + i,none⟩ = some (.int .i64 (M.getD i 0)):=by
 obtain ⟨ao,c,rfl,hc,hs⟩:=h
 refine ⟨ao,c,rfl,hc,fun u k => ⟨⟨ao,c,rfl,hc,hs.kept k⟩,fun i hi => ?_⟩⟩
 obtain ⟨ao',cap,e,h1,h2,hr⟩:=hs.kept k
 cases e
 have hne : M ≠ []:=by intro e; subst e; simp at hi
 obtain ⟨b,off,rfl,hb,hr⟩:=hr hne
 exact ⟨b,off,rfl,hr i hi⟩
end Go.Proofs.YtnniljhdcplkgaaGreatDoor

namespace Go.Proofs.YtnniljhdcplkgaaGreatDoor
open Go.ChangeShapes Go.WideShapes Go.ChangeAt Go.RowKit
set_option maxHeartbeats 16000000
set_option maxRecDepth 100000
set_option linter.unusedVariables false
set_option linter.unusedSimpArgs false
theorem dg_shift (A j i : Nat) : dg (A / 2 ^ (30 * j)) i = dg A (j + i):=by
 unfold dg
 rw [Nat.div_div_eq_div_mul,← Nat.pow_add,← Nat.mul_add]
theorem dg_cons_zero (R d : Nat) (hd : d < 1073741824) : dg (R * 1073741824 + d) 0 = d:=by
 unfold dg
 rw [Nat.mul_zero,Nat.pow_zero,Nat.div_one]
 omega
theorem dg_cons_succ (R d i : Nat) (hd : d < 1073741824) : dg (R * 1073741824 + d) (i + 1) = dg R i:=by
 unfold dg
 rw [show 30 * (i + 1) = 30 + 30 * i by omega,Nat.pow_add,← Nat.div_div_eq_div_mul,show (R * 1073741824 + d) / 2 ^ 30 = R by rw [show (2 : Nat) ^ 30 = 1073741824 by decide]; omega]
theorem rest_step (R i : Nat) : decide (R % 2 ^ (30 * (i + 1)) ≠ 0) = (decide (R % 2 ^ (30 * i) ≠ 0) || decide (dg R i ≠ 0)):=by
 rw [dg_mod,← Bool.decide_or]
 congr 1
 apply propext
 have hp:=Nat.two_pow_pos (30 * i)
 constructor
 ·intro h
  apply Decidable.byContradiction
  intro hn
  have h1 : R % 2 ^ (30 * i) = 0:=by omega
  have h2 : dg R i = 0:=by omega
  rw [h1,h2] at h
  exact h (by simp)
 ·rintro (h | h)
  ·omega
  ·have : 2 ^ (30 * i) ≤ 2 ^ (30 * i) * dg R i:=Nat.le_mul_of_pos_right _ (by omega)
   omega
theorem flo_div (v : Nat) (t : Int) (j : Nat) : flo v t / 2 ^ j = flo v (t - (j : Int)):=by
 unfold flo
 by_cases h : 0 ≤ t - (j : Int)
 ·rw [if_pos h,if_pos (by omega),show t.toNat = (t - (j : Int)).toNat + j by omega,Nat.pow_add,← Nat.mul_assoc,Nat.mul_div_cancel _ (Nat.two_pow_pos _)]
 ·rw [if_neg h]
  by_cases h1 : 0 ≤ t
  ·rw [if_pos h1]
   have : (2 : Nat) ^ j = 2 ^ t.toNat * 2 ^ (-(t - (j : Int))).toNat:=by rw [← Nat.pow_add]; congr 1; omega
   rw [this,Nat.mul_comm v,Nat.mul_div_mul_left _ _ (Nat.two_pow_pos _)]
  ·rw [if_neg h1,Nat.div_div_eq_div_mul,← Nat.pow_add]
   congr 2
   omega
theorem or_head (q h : Nat) (hq : q < 1073741824) (hh : h < 2147483648) : IntKind.i64.wrap ((h : Int) * 1073741824) = ((h * 1073741824 : Nat) : Int) ∧ bits .or .i64 ((h * 1073741824 : Nat) : Int) (q : Int) = ((h * 1073741824 + q : Nat) : Int):=by
 have e : (2 : Nat) ^ 30 = 1073741824:=by decide
 constructor
 ·rw [wrap_i64]; omega
 ·have:=or_low q h 30 (by rw [e]; exact hq) (by rw [e]; omega)
  rw [e,Nat.add_comm q] at this
  exact this
theorem or_head2 (q h : Nat) (hq : q < 1073741824) (hh : h < 2147483648) : ∃ G H : Nat,IntKind.i64.wrap ((h : Int) * 1073741824) = (G : Int) ∧ bits .or .i64 (G : Int) (q : Int) = (H : Int) ∧ G = h * 1073741824 ∧ H = G + q:=by
 obtain ⟨h1,h2⟩:=or_head q h hq hh
 exact ⟨h * 1073741824,h * 1073741824 + q,h1,h2,rfl,rfl⟩
theorem or_zero (q : Nat) (hq : q < 1073741824) : bits .or .i64 0 (q : Int) = (q : Int):=by
 obtain ⟨h1,h2⟩:=or_head q 0 hq (by decide)
 rw [Nat.zero_mul,Nat.zero_add] at h2
 exact h2
theorem getD_snoc (L : List Int) (d : Int) (i : Nat) : (L ++ [d]).getD i 0 = if i < L.length then L.getD i 0 else if i = L.length then d else 0:=by
 simp only [List.getD_eq_getElem?_getD]
 by_cases h : i < L.length
 ·rw [if_pos h,List.getElem?_append_left h]
 ·rw [if_neg h,List.getElem?_append_right (by omega)]
  by_cases h2 : i = L.length
  ·rw [if_pos h2,h2,Nat.sub_self]
   rfl
  ·rw [if_neg h2]
   obtain ⟨j,hj⟩ : ∃ j,i - L.length = j + 1:=⟨i - L.length - 1,by omega⟩
   rw [hj]
   rfl
end Go.Proofs.YtnniljhdcplkgaaGreatDoor
