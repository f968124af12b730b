/- The world behind a call that ranges over a function: what lay lies as it lay (Bl). The small functions of package tensor: shapeOf,turned,checkRoom,checkShape,matrix,rowOf,bare. The walks of exact's Add of two numbers that are not 0,and Int. The walks of cmp.Compare of ints,of exact's below and take of one digit. -/
import Derived.Test.YtelbefihigkhjaaGreatDoorWa14
import Derived.Test.YtelbefihigkhjaaGreatDoorWa13
import Derived.Test.YtelbefihigkhjaaGreatDoorWa12
import Derived.BigRegion
namespace Go.Proofs.YtelbefihigkhjaaGreatDoor
open Go.ChangeShapes Go.WideShapes Go.ChangeAt Go.RowKit
set_option maxHeartbeats 16000000
set_option maxRecDepth 100000
set_option linter.unusedVariables false
set_option linter.unusedSimpArgs false
structure Bl (w w' : World) : Prop where
 below : Below w.heap.size w w'
theorem Bl.refl (w : World) : Bl w w:=⟨Below.refl _ _⟩
theorem Bl.trans {a b c : World} (h : Bl a b) (k : Bl b c) : Bl a c:=⟨h.below.trans (k.below.mono h.below.size)⟩
theorem Kept.bl {a b : World} (h : Kept a b) : Bl a b:=⟨h.below⟩
theorem Bl.alloc {a b : World} (h : Bl a b) (o : Obj) : Bl a (b.alloc o):=⟨h.below.alloc h.below.size _⟩
theorem Bl.setCell {a b : World} (h : Bl a b) {p : Addr} (hp : a.heap.size ≤ p.block) (u : Value) : Bl a (b.setCell p u):=⟨h.below.setCell hp u⟩
theorem Bl.drew {a b : World} (h : Bl a b) : Bl a b.drew:=⟨h.below.drew⟩
theorem Bl.drewN {a b : World} (h : Bl a b) (n : Nat) : Bl a (b.drewN n):=⟨below_drewN h.below n⟩
theorem Bl.size {a b : World} (h : Bl a b) : a.heap.size ≤ b.heap.size:=h.below.size
theorem Bl.grw {a b c : World} {g : Nat} (h : Bl a b) (hg : a.heap.size ≤ g) (k : Grw g b c) : Bl a c :=
 ⟨h.below.grown k.grown h.below.size (fun i e => by cases e; exact hg)⟩
theorem Bl.cell {a b : World} (h : Bl a b) (B o : Nat) (hB : B < a.heap.size) : b.cell? ⟨B,o,none⟩ = a.cell? ⟨B,o,none⟩:=h.below.cell (p:=⟨B,o,none⟩) hB
theorem Bl.frozen {a b : World} (h : Bl a b) (B o : Nat) (hB : B < a.heap.size) : b.frozen? ⟨B,o,none⟩ = a.frozen? ⟨B,o,none⟩:=h.below.frozen (p:=⟨B,o,none⟩) hB
theorem Reads.bl {w w' : World} {b off : Nat} {L : List Int} (h : Reads w b off L) (hb : b < w.heap.size) (k : Bl w w') : Reads w' b off L :=
 fun i hi => (k.cell b (off + i) hb).trans (h i hi)
theorem Sl.bl {w w' : World} {v : Value} {L : List Int} (h : Sl w v L) (k : Bl w w') : Sl w' v L:=by
 obtain ⟨ao,cap,e,hc,hm,hr⟩:=h
 refine ⟨ao,cap,e,hc,hm,fun hne => ?_⟩
 obtain ⟨b,off,e2,hb,hr⟩:=hr hne
 exact ⟨b,off,e2,Nat.lt_of_lt_of_le hb k.size,hr.bl hb k⟩
theorem Own.bl {w w' : World} {g cap : Nat} {L : List Int} (h : Own w g cap L) (k : Bl w w') : Own w' g cap L:=by
 have hl:=h.lt
 obtain ⟨cur,hg,r⟩:=h
 exact ⟨cur,(k.below.block g hl).trans hg,r⟩
theorem MR.bl {H : Nat} {w w' : World} {v : Value} {M : List Int} (h : MR H w v M) (k : Bl w w') : MR H w' v M:=by
 rcases h with h | ⟨g,cap,e,hg,ho⟩
 ·exact .inl h
 ·exact .inr ⟨g,cap,e,hg,ho.bl k⟩
/-- A matrix in four cells. -/
structure M4 (w : World) (B : Nat) (r c n s : Value) : Prop where
 c0 : w.cell? ⟨B,0,none⟩ = some r
 c1 : w.cell? ⟨B,1,none⟩ = some c
 c2 : w.cell? ⟨B,2,none⟩ = some n
 c3 : w.cell? ⟨B,3,none⟩ = some s
theorem M4.lt {w : World} {B : Nat} {r c n s : Value} (h : M4 w B r c n s) : B < w.heap.size:=by
 by_cases hb : B < w.heap.size
 ·exact hb
 ·have:=h.c0
  simp [World.cell?,Array.getElem?_eq_none (Nat.le_of_not_lt hb)] at this
theorem M4.bl {w w' : World} {B : Nat} {r c n s : Value} (h : M4 w B r c n s) (k : Bl w w') : M4 w' B r c n s :=
 ⟨(k.cell B 0 h.lt).trans h.c0,(k.cell B 1 h.lt).trans h.c1,(k.cell B 2 h.lt).trans h.c2,(k.cell B 3 h.lt).trans h.c3⟩
theorem M4.new (w : World) (r c n s : Value) (t : TypeId) : M4 (w.alloc (.cells #[r,c,n,s] t)) w.heap.size r c n s :=
 ⟨by simp [go_sem],by simp [go_sem],by simp [go_sem],by simp [go_sem]⟩
/-- The error of rows,columns,width. -/
def ckR (r c : Int) : Int:=if Int.tdiv 4096 c < r then 2 else 0
def ckS (r c n : Int) : Int:=if ¬ (n = 64 ∨ n = 32) then 3 else if min r c < 1 then 4 else ckR r c
theorem val_0 (n : Int) : val 0 n = decide (n = 64 ∨ n = 32):=by unfold val; simp
theorem checkRoom_any (r c n : Int) (hc : 1 ≤ c) (w : World) : Calls Tryz.prog 179 #[.agg #[.int .i64 r,.int .i64 c,.int .i64 n]] w fun e w' => e = .returned (.int .i64 (ckR r c)) ∧ Kept w w':=by
 have h0 : ¬ c = 0:=by omega
 have hq : 0 ≤ Int.tdiv 4096 c ∧ Int.tdiv 4096 c ≤ 4096:=⟨Int.tdiv_nonneg (by omega) (by omega),by
  rw [Int.tdiv_eq_ediv_of_nonneg (by omega)]
  exact Int.ediv_le_self _ (by omega)⟩
 have hw : IntKind.i64.wrap (Int.tdiv 4096 c) = Int.tdiv 4096 c:=by rw [wrap_i64]; omega
 go_enter Tryz.func179,Tryz.ntmps179
 go_wp2
 go_region
 all_goals go_wp2
 all_goals
  go_ret
  refine ⟨ret_int ?_,by first | exact ((Kept.refl w).alloc _ _).drew | exact (Kept.refl w).alloc _ _⟩
  unfold ckR
  generalize Int.tdiv 4096 c = q at *
  (repeat' split) <;> omega
theorem checkShape_any (r c n : Int) (w : World) : Calls Tryz.prog 97 #[.agg #[.int .i64 r,.int .i64 c,.int .i64 n]] w fun e w' => e = .returned (.int .i64 (ckS r c n)) ∧ Kept w w':=by
 by_cases hn : n = 64 ∨ n = 32
 ·have KV : Hid (∀ u,Calls Tryz.prog 162 #[.int .i64 0,.int .i64 n] u fun e w' => e = .returned (.bool true) ∧ u = w'):=fun u => by
   have:=valid_any 0 n u
   rw [val_0,decide_eq_true hn] at this
   exact this
  by_cases hm : min r c < 1
  ·have hk : ckS r c n = 4:=by unfold ckS; rw [if_neg (fun h => h hn),if_pos hm]
   rw [hk]
   clear hk hn
   go_enter Tryz.func97,Tryz.ntmps97
   go_wp2_with (first | (go_at_call 162; refine (KV.out _).mono ?_; rintro e w1 ⟨rfl,rfl⟩))
   go_ret
   exact ⟨rfl,(Kept.refl w).alloc _ _⟩
  ·have hk : ckS r c n = ckR r c:=by unfold ckS; rw [if_neg (fun h => h hn),if_neg hm]
   rw [hk]
   have KR : Hid (∀ u,Calls Tryz.prog 179 #[.agg #[.int .i64 r,.int .i64 c,.int .i64 n]] u fun e w' => e = .returned (.int .i64 (ckR r c)) ∧ Kept u w'):=fun u => checkRoom_any r c n (by omega) u
   generalize ckR r c = q at *
   clear hk hn
   go_enter Tryz.func97,Tryz.ntmps97
   go_wp2_with (first | (go_at_call 162; refine (KV.out _).mono ?_; rintro e w1 ⟨rfl,rfl⟩) | (go_at_call 179; refine (KR.out _).mono ?_; rintro e w2 ⟨rfl,k2⟩))
   go_ret
   exact ⟨rfl,((Kept.refl w).alloc _ _).trans k2⟩
 ·have KV : Hid (∀ u,Calls Tryz.prog 162 #[.int .i64 0,.int .i64 n] u fun e w' => e = .returned (.bool false) ∧ u = w'):=fun u => by
   have:=valid_any 0 n u
   rw [val_0,decide_eq_false hn] at this
   exact this
  have hk : ckS r c n = 3:=by unfold ckS; rw [if_pos hn]
  rw [hk]
  clear hk hn
  go_enter Tryz.func97,Tryz.ntmps97
  go_wp2_with (first | (go_at_call 162; refine (KV.out _).mono ?_; rintro e w1 ⟨rfl,rfl⟩))
  go_ret
  exact ⟨rfl,(Kept.refl w).alloc _ _⟩
theorem ckS_ok {r c n : Int} (h : ckS r c n = 0) : (n = 64 ∨ n = 32) ∧ 1 ≤ r ∧ 1 ≤ c ∧ r * c ≤ 4096:=by
 unfold ckS ckR at h
 split at h
 ·omega
 ·rename_i hn
  split at h
  ·omega
  ·rename_i hm
   split at h
   ·omega
   ·rename_i hq
    refine ⟨by omega,by omega,by omega,?_⟩
    rw [Int.tdiv_eq_ediv_of_nonneg (by omega)] at hq
    have h1 : r ≤ 4096 / c:=by omega
    exact (Int.le_ediv_iff_mul_le (by omega)).1 h1
end Go.Proofs.YtelbefihigkhjaaGreatDoor

namespace Go.Proofs.YtelbefihigkhjaaGreatDoor
open Go.ChangeShapes Go.WideShapes Go.ChangeAt Go.RowKit
set_option maxHeartbeats 16000000
set_option maxRecDepth 100000
set_option linter.unusedVariables false
set_option linter.unusedSimpArgs false
abbrev pairC (n1 : Bool) (s1 : Value) (x1 : Int) (n2 : Bool) (s2 : Value) (x2 : Int) : Array Value:=#[.bool n1,s1,.int .i64 x1,.bool n2,s2,.int .i64 x2]
theorem addz_in_ok (w : World) (hT : Tab w) (n1 : Bool) (L1 : List Int) (x1 : Int) (hv1 : vld ⟨n1,L1,x1⟩ = true) (a1 : Option Addr) (c1 : Nat) (n2 : Bool) (L2 : List Int) (x2 : Int) (hv2 : vld ⟨n2,L2,x2⟩ = true) (a2 : Option Addr) (c2 : Nat)  (h1 : Sl w (.slice a1 L1.length c1) L1) (h2 : Sl w (.slice a2 L2.length c2) L2) (r : Nm) (hf : addZ ⟨n1,L1,x1⟩ ⟨n2,L2,x2⟩ = some r) (p q : Nat) (hp : p < w.heap.size) (hq : q < w.heap.size)  (cp0 : w.cell? ⟨p,0,none⟩ = some (.bool n1)) (cp1 : w.cell? ⟨p,1,none⟩ = some (.slice a1 L1.length c1)) (cp2 : w.cell? ⟨p,2,none⟩ = some (.int .i64 x1)) (cq0 : w.cell? ⟨q,0,none⟩ = some (.bool n2)) (cq1 : w.cell? ⟨q,1,none⟩ = some (.slice a2 L2.length c2)) (cq2 : w.cell? ⟨q,2,none⟩ = some (.int .i64 x2)) : Calls Tryz.prog 251 #[.pointer (some ⟨p,0,none⟩),.pointer (some ⟨q,0,none⟩)] w fun e w' => (∃ v,e = .returned v ∧ New w w' v r) ∧ Kept w w':=by
 have hK : Kept w (numW w):=(Kept.refl w).alloc _ _
 have hK2 : Kept (numW w) ((numW w).alloc (.cells (pairC n1 (.slice a1 L1.length c1) x1 n2 (.slice a2 L2.length c2) x2) 78)):=(Kept.refl _).alloc _ _
 have KS : Hid (Calls Tryz.prog 250 #[.slice (some ⟨w.heap.size + 1,0,none⟩) 2 2] ((numW w).alloc (.cells (pairC n1 (.slice a1 L1.length c1) x1 n2 (.slice a2 L2.length c2) x2) 78)) fun e w' => ToldR (some r) ((numW w).alloc (.cells (pairC n1 (.slice a1 L1.length c1) x1 n2 (.slice a2 L2.length c2) x2) 78)) w' e ∧ Kept (numW w) w'):=by
  have:=sum_any ((numW w).alloc (.cells (pairC n1 (.slice a1 L1.length c1) x1 n2 (.slice a2 L2.length c2) x2) 78)) (w.heap.size + 1) (by simp) (hT.kept (hK.trans hK2)) n1 L1 x1 (fun _ => hv1) (vld_zero n1 L1 x1 hv1) a1 c1 (h1.kept (hK.trans hK2)) n2 L2 x2 (fun _ => hv2) (vld_zero n2 L2 x2 hv2) a2 c2 (h2.kept (hK.trans hK2)) (by simp [go_sem]) (by simp [go_sem]) (by simp [go_sem]) (by simp [go_sem]) (by simp [go_sem]) (by simp [go_sem]) (some r) hf
  refine this.mono ?_
  rintro e w' ⟨hr,k⟩
  exact ⟨hr,hK2.trans k⟩
 have ep0 : (numW w).cell? ⟨p,0,none⟩ = some (.bool n1):=(hK.below.cell (p:=⟨p,0,none⟩) hp).trans cp0
 have ep1 : (numW w).cell? ⟨p,1,none⟩ = some (.slice a1 L1.length c1):=(hK.below.cell (p:=⟨p,1,none⟩) hp).trans cp1
 have ep2 : (numW w).cell? ⟨p,2,none⟩ = some (.int .i64 x1):=(hK.below.cell (p:=⟨p,2,none⟩) hp).trans cp2
 have eq0 : (numW w).cell? ⟨q,0,none⟩ = some (.bool n2):=(hK.below.cell (p:=⟨q,0,none⟩) hq).trans cq0
 have eq1 : (numW w).cell? ⟨q,1,none⟩ = some (.slice a2 L2.length c2):=(hK.below.cell (p:=⟨q,1,none⟩) hq).trans cq1
 have eq2 : (numW w).cell? ⟨q,2,none⟩ = some (.int .i64 x2):=(hK.below.cell (p:=⟨q,2,none⟩) hq).trans cq2
 clear h1 h2 hT hf hv1 hv2 cp0 cp1 cp2 cq0 cq1 cq2
 generalize L1.length = l1 at *
 generalize L2.length = l2 at *
 go_enter Tryz.func251,Tryz.ntmps251
 go_wp2_with (first | (go_at_call 250; refine KS.out.mono ?_; rintro e w1 ⟨⟨v,rfl,hN⟩,hk1⟩; obtain ⟨vn,va,vl,vc,vx,rfl⟩:=hN.shape; obtain ⟨f0,f1,f2,f3⟩:=num_cells hk1))
 have:=num_done (hN.from hK2) hk1 (.bool vn) (.slice va vl vc) (.int .i64 vx)
 exact bodyPost_ret (v:=.agg #[.bool vn,.slice va vl vc,.int .i64 vx]) (by simp [results,Tryz.results251,go_sem,f0,f1,f2]) rfl ⟨⟨_,rfl,this.1⟩,this.2⟩
abbrev addW (w : World) (v1 v2 c : Array Value) : World:=(((w.alloc (.cells v1 78)).alloc (.cells v2 78)).alloc nilNum).alloc (.cells c 78)
theorem addW_kept (w : World) (v1 v2 c : Array Value) : Kept w (addW w v1 v2 c):=((((Kept.refl w).alloc _ _).alloc _ _).alloc _ _).alloc _ _
theorem addz_ok (w : World) (hT : Tab w) (n1 : Bool) (L1 : List Int) (x1 : Int) (hv1 : vld ⟨n1,L1,x1⟩ = true) (a1 : Option Addr) (c1 : Nat) (n2 : Bool) (L2 : List Int) (x2 : Int) (hv2 : vld ⟨n2,L2,x2⟩ = true) (a2 : Option Addr) (c2 : Nat)  (h1 : Sl w (.slice a1 L1.length c1) L1) (h2 : Sl w (.slice a2 L2.length c2) L2) (r : Nm) (hf : addZ ⟨n1,L1,x1⟩ ⟨n2,L2,x2⟩ = some r) : Calls Tryz.prog 186 #[.agg #[.bool n1,.slice a1 L1.length c1,.int .i64 x1],.agg #[.bool n2,.slice a2 L2.length c2,.int .i64 x2]] w fun e w' => ∃ v,e = .returned (.tuple #[v,.int .i64 0]) ∧ New w w' v r ∧ Kept w w':=by
 have hW:=addW_kept w #[.bool n1,.slice a1 L1.length c1,.int .i64 x1] #[.bool n2,.slice a2 L2.length c2,.int .i64 x2] (pairC n1 (.slice a1 L1.length c1) x1 n2 (.slice a2 L2.length c2) x2)
 have hd1:=vld_dg _ _ _ hv1
 have hd2:=vld_dg _ _ _ hv2
 have KV : Hid (∀ w',Kept (addW w #[.bool n1,.slice a1 L1.length c1,.int .i64 x1] #[.bool n2,.slice a2 L2.length c2,.int .i64 x2] (pairC n1 (.slice a1 L1.length c1) x1 n2 (.slice a2 L2.length c2) x2)) w' → Calls Tryz.prog 282 #[.slice (some ⟨w.heap.size + 3,0,none⟩) 2 2] w' fun e w'' => e = .returned (.bool true) ∧ Kept w' w''):=fun u k => by
  have hb : w.heap.size + 3 < (addW w #[.bool n1,.slice a1 L1.length c1,.int .i64 x1] #[.bool n2,.slice a2 L2.length c2,.int .i64 x2] (pairC n1 (.slice a1 L1.length c1) x1 n2 (.slice a2 L2.length c2) x2)).heap.size:=by simp
  have:=allValid_2 u (w.heap.size + 3) 2 n1 n2 a1 a2 L1.length c1 L2.length c2 x1 x2 true true (Nat.lt_of_lt_of_le hb k.below.size) ((k.below.cell (p:=⟨w.heap.size + 3,0,none⟩) hb).trans (by simp [go_sem])) ((k.below.cell (p:=⟨w.heap.size + 3,1,none⟩) hb).trans (by simp [go_sem])) ((k.below.cell (p:=⟨w.heap.size + 3,2,none⟩) hb).trans (by simp [go_sem])) ((k.below.cell (p:=⟨w.heap.size + 3,3,none⟩) hb).trans (by simp [go_sem])) ((k.below.cell (p:=⟨w.heap.size + 3,4,none⟩) hb).trans (by simp [go_sem])) ((k.below.cell (p:=⟨w.heap.size + 3,5,none⟩) hb).trans (by simp [go_sem])) (fun v kv => ?_) (fun v kv => ?_)
  ·exact this
  ·have:=xvalid_any ⟨n1,L1,x1⟩ hd1.2.rg (by dsimp only; omega) (.agg #[.bool n1,.slice a1 L1.length c1,.int .i64 x1]) v ⟨_,rfl,((h1.kept hW).kept k).kept kv⟩
   rw [hv1] at this
   exact this
  ·have:=xvalid_any ⟨n2,L2,x2⟩ hd2.2.rg (by dsimp only; omega) (.agg #[.bool n2,.slice a2 L2.length c2,.int .i64 x2]) v ⟨_,rfl,((h2.kept hW).kept k).kept kv⟩
   rw [hv2] at this
   exact this
 have KT : Hid (Calls Tryz.prog 248 #[.func (.func 251) #[] #[.pointer (some ⟨w.heap.size,0,none⟩),.pointer (some ⟨w.heap.size + 1,0,none⟩)],.slice (some ⟨w.heap.size + 3,0,none⟩) 2 2] (addW w #[.bool n1,.slice a1 L1.length c1,.int .i64 x1] #[.bool n2,.slice a2 L2.length c2,.int .i64 x2] (pairC n1 (.slice a1 L1.length c1) x1 n2 (.slice a2 L2.length c2) x2)) fun e w' => ∃ v,e = .returned (.tuple #[v,.int .i64 0]) ∧ New (addW w #[.bool n1,.slice a1 L1.length c1,.int .i64 x1] #[.bool n2,.slice a2 L2.length c2,.int .i64 x2] (pairC n1 (.slice a1 L1.length c1) x1 n2 (.slice a2 L2.length c2) x2)) w' v r ∧ Kept (addW w #[.bool n1,.slice a1 L1.length c1,.int .i64 x1] #[.bool n2,.slice a2 L2.length c2,.int .i64 x2] (pairC n1 (.slice a1 L1.length c1) x1 n2 (.slice a2 L2.length c2) x2)) w'):=by
  refine told_ok 251 _ (fun w => call_of Tryz.func251 (by kernel_rfl) (by kernel_rfl) _ w) _ r _ KV (fun u k => ?_)
  have hs:=k.below.size
  simp only [addW,World.size_alloc] at hs
  exact addz_in_ok u ((hT.kept hW).kept k) n1 L1 x1 hv1 a1 c1 n2 L2 x2 hv2 a2 c2 ((h1.kept hW).kept k) ((h2.kept hW).kept k) r hf _ _ (by omega) (by omega) ((k.below.cell (p:=⟨w.heap.size,0,none⟩) (by simp <;> omega)).trans (by simp [go_sem])) ((k.below.cell (p:=⟨w.heap.size,1,none⟩) (by simp <;> omega)).trans (by simp [go_sem])) ((k.below.cell (p:=⟨w.heap.size,2,none⟩) (by simp <;> omega)).trans (by simp [go_sem])) ((k.below.cell (p:=⟨w.heap.size + 1,0,none⟩) (by simp <;> omega)).trans (by simp [go_sem])) ((k.below.cell (p:=⟨w.heap.size + 1,1,none⟩) (by simp <;> omega)).trans (by simp [go_sem])) ((k.below.cell (p:=⟨w.heap.size + 1,2,none⟩) (by simp <;> omega)).trans (by simp [go_sem]))
 have hmf : ∀ (fn : Fn) (first cap : Array Value) (w : World),(Instr.makeFunc fn first cap).run Tryz.prog w = .ok (.func fn first cap) w:=fun _ _ _ _ => rfl
 clear h1 h2 hT hf hv1 hv2 KV hd1 hd2
 generalize L1.length = l1 at *
 generalize L2.length = l2 at *
 go_enter Tryz.func186,Tryz.ntmps186
 go_wp2_with (first | (go_at_call 248; refine KT.out.mono ?_; rintro e w1 ⟨v,rfl,hN,hk1⟩; obtain ⟨vn,va,vl,vc,vx,rfl⟩:=hN.shape; obtain ⟨f0,f1,f2,f3⟩:=res_cells (w.heap.size + 2) (by simp <;> omega) hk1 (by simp [go_sem]) (by simp [go_sem]) (by simp [go_sem]) (fun o => by simp [go_sem])))
 have:=res_done (w.heap.size + 2) (by omega) (by simp <;> omega) hW hN hk1 (.bool vn) (.slice va vl vc) (.int .i64 vx)
 refine bodyPost_ret (v:=.tuple #[.agg #[.bool vn,.slice va vl vc,.int .i64 vx],.int .i64 0]) (by simp [results,Tryz.results186,go_sem,f0,f1,f2]) rfl ⟨_,rfl,this.1,this.2⟩
/-! ### Int -/
theorem own_three (w : World) (a b c : Int) : Own (w.alloc (.cells #[.int .i64 a,.int .i64 b,.int .i64 c] 3)) w.heap.size 3 [a,b,c] :=
 ⟨_,heap_alloc_new w _,Nat.le_refl _,by simp [maxLen],by simp,by simp⟩
theorem int_pos (n : Int) (h0 : 0 ≤ n) (h1 : n ≤ 9223372036854775807) (r : Nm) (hf : frm (decide (n < 0)) n.natAbs 0 = some r) (w : World) (hT : Tab w) : Calls Tryz.prog 253 #[.int .i64 n] w fun e w' => (∃ v,e = .returned v ∧ New w w' v r) ∧ Kept w w':=by
 have hK : Kept w (numW w):=(Kept.refl w).alloc _ _
 obtain ⟨s,hs⟩ : ∃ s : Int,s = (n.natAbs : Int):=⟨_,rfl⟩
 have hs1 : 0 ≤ s ∧ s ≤ 9223372036854775808:=by omega
 have hw1 : IntKind.u64.wrap n = if n < 0 then n + 18446744073709551616 else n:=by rw [IntKind.wrap_u64]; split <;> omega
 have KD : Hid (Calls Tryz.prog 247 #[.int .u64 s] (numW w) fun e w' => e = .returned (.slice (some ⟨(numW w).heap.size,0,none⟩) 3 3) ∧ w' = (numW w).alloc (.cells #[.int .i64 (s % 1073741824),.int .i64 (s / 1073741824 % 1073741824),.int .i64 (s / 1152921504606846976)] 3)):=digitsOf_any s hs1.1 (by omega) (numW w)
 have hO:=own_three (numW w) (s % 1073741824) (s / 1073741824 % 1073741824) (s / 1152921504606846976)
 have hDg : Dg [s % 1073741824,s / 1073741824 % 1073741824,s / 1152921504606846976]:=Dg.cons (by omega) (by omega) (Dg.cons (by omega) (by omega) (Dg.cons (by omega) (by omega) Dg.nil))
 have hnv : nv [s % 1073741824,s / 1073741824 % 1073741824,s / 1152921504606846976] = n.natAbs:=by
  show (s % 1073741824).toNat + 1073741824 * ((s / 1073741824 % 1073741824).toNat + 1073741824 * ((s / 1152921504606846976).toNat + 1073741824 * 0)) = n.natAbs
  omega
 have hK2 : Kept (numW w) ((numW w).alloc (.cells #[.int .i64 (s % 1073741824),.int .i64 (s / 1073741824 % 1073741824),.int .i64 (s / 1152921504606846976)] 3)):=(Kept.refl _).alloc _ _
 have KF : Hid (Calls Tryz.prog 246 #[.bool (decide (n < 0)),.slice (some ⟨(numW w).heap.size,0,none⟩) 3 3,.int .i64 0] ((numW w).alloc (.cells #[.int .i64 (s % 1073741824),.int .i64 (s / 1073741824 % 1073741824),.int .i64 (s / 1152921504606846976)] 3)) fun e w' => (∃ v,e = .returned v ∧ New (numW w) w' v r) ∧ Kept (numW w) w'):=form_ok _ _ hDg (by simp) _ 3 0 (numW w) _ hK2 (Nat.le_refl _) hO (hT.kept (hK.trans hK2)) r (by rw [hnv]; exact hf)
 clear hO hDg hnv hf hT
 simp only [World.size_alloc] at KD KF
 have hneg : ¬ n < 0:=by omega
 ·rw [if_neg hneg] at hw1
  have hsn : s = n:=by omega
  subst hsn
  rw [decide_eq_false hneg] at KF
  clear hs hs1 h1
  go_enter Tryz.func253,Tryz.ntmps253
  go_wp2_with (first | (go_at_call 247; refine KD.out.mono ?_; rintro e w1 ⟨rfl,rfl⟩) | (go_at_call 246; refine KF.out.mono ?_; rintro e w2 ⟨⟨v,rfl,hN⟩,hk1⟩; obtain ⟨vn,va,vl,vc,vx,rfl⟩:=hN.shape; obtain ⟨f0,f1,f2,f3⟩:=num_cells hk1))
  have:=num_done hN hk1 (.bool vn) (.slice va vl vc) (.int .i64 vx)
  exact bodyPost_ret (v:=.agg #[.bool vn,.slice va vl vc,.int .i64 vx]) (by simp [results,Tryz.results253,go_sem,f0,f1,f2]) rfl ⟨⟨_,rfl,this.1⟩,this.2⟩
end Go.Proofs.YtelbefihigkhjaaGreatDoor

namespace Go.Proofs.YtelbefihigkhjaaGreatDoor
open Go.ChangeShapes Go.WideShapes Go.ChangeAt Go.RowKit
set_option maxHeartbeats 16000000
set_option maxRecDepth 100000
set_option linter.unusedVariables false
set_option linter.unusedSimpArgs false
set_option linter.unnecessarySimpa false
end Go.Proofs.YtelbefihigkhjaaGreatDoor
