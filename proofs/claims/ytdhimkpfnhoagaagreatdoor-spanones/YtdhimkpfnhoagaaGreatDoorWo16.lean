/- The walks of the laws' own Lent,LentNum,Back. Lists that were answered,kept: the walk of the laws' own Keep.Add. The walk of the laws' own Keep.Add. Append of noughts; the lists that were answered,marked and grown. The walk of the laws' own Keep.Apart. The walk of the laws' own Keep.Apart: no two lists that were answered share memory. The walks of the document's own Valid,Answer,Turned,Scale,Sig. The walks of the document's own Answer,Turned,Scale,Sig. The walk of the laws' own 'is'. What Neg,Sign,Scale tell of any number; and the document's own Scale beside it. -/
import Derived.Test.YtdhimkpfnhoagaaGreatDoorWo14
namespace Go.Proofs.YtdhimkpfnhoagaaGreatDoor
open Go.ChangeShapes Go.WideShapes Go.ChangeAt Go.RowKit
set_option linter.unusedVariables false
set_option linter.unusedSimpArgs false
set_option maxHeartbeats 16000000
set_option maxRecDepth 100000
theorem getD_apr (A B : List Int) (k j : Nat) (h : A.length + j = k) : (A ++ B).getD k 0 = B.getD j 0:=by
 rw [List.getD_eq_getElem?_getD,List.getElem?_append_right (by omega),show k - A.length = j by omega,List.getD_eq_getElem?_getD]
theorem lent_any (L : List Int) (hlen : L.length < 10000000) (ao : Option Addr) (c : Nat) (w : World) (h : Sl w (.slice ao L.length c) L) : Calls Tryz.prog 85 #[.slice ao L.length c] w fun e w' => (∃ g cap,e = .returned (.slice (some ⟨g,0,none⟩) (L.length + 3) cap) ∧ w.heap.size ≤ g ∧ Own w' g cap (L ++ [-71,-72,-73])) ∧ Kept w w':=by
 obtain ⟨v1,w1,hr1,k1,hrow⟩:=app_nil L (by omega) _ w h
 have k2 : Kept w1 (w1.alloc (.cells #[.int .i64 (-71),.int .i64 (-72),.int .i64 (-73)] 3)):=(Kept.refl w1).alloc _ _
 have hR : Rw (w1.alloc (.cells #[.int .i64 (-71),.int .i64 (-72),.int .i64 (-73)] 3)) v1 3 (L.map (Value.int .i64)):=by
  rcases hrow with ⟨rfl,rfl⟩ | ⟨g,cap,rfl,hg,hO⟩
  ·exact .inl ⟨rfl,rfl⟩
  ·exact .inr ⟨g,cap,by rw [List.length_map],own_v.1 (hO.kept k2)⟩
 obtain ⟨g,cap,w2,hr2,hO2,hk2⟩:=app_gen 24 3 li_under (.int .i64 0) 8 int_info (by simp [Value.cells]) (by omega) _ v1 (L.map (Value.int .i64)) [.int .i64 (-71),.int .i64 (-72),.int .i64 (-73)] hR ⟨w1.heap.size,0,none⟩ 3 3 rfl (fun j u hj => by
  rw [Addr.add_lit,Nat.zero_add]
  rcases j with _ | _ | _ | j
  ·cases hj; simp [go_sem]
  ·cases hj; simp [go_sem]
  ·cases hj; simp [go_sem]
  ·simp at hj) (fun u hu => by simp at hu; rcases hu with rfl | rfl | rfl <;> rfl) (by omega) (by rw [List.length_map]; omega)
 rw [List.length_map] at hr2 hk2
 have hfin : (w.heap.size ≤ g ∧ Own w2 g cap (L ++ [-71,-72,-73])) ∧ Kept w w2:=by
  have hs1:=k1.below.size
  refine ⟨⟨?_,own_v.2 (by simpa using hO2)⟩,?_⟩
  ·rcases hk2 with ⟨rfl,-⟩ | ⟨e,-⟩
   ·simp; omega
   ·rcases hrow with ⟨-,rfl⟩ | ⟨g',cap',rfl,hg,-⟩
    ·cases e
    ·cases e; exact hg
  ·rcases hk2 with ⟨-,k⟩ | ⟨e,k⟩
   ·exact (k1.trans k2).trans k
   ·rcases hrow with ⟨-,rfl⟩ | ⟨g',cap',rfl,hg,-⟩
    ·cases e
    ·cases e; exact (k1.trans k2).grw hg k
 have H1 : Hid (∀ ty,(Builtin.append_ #[24,24] ty #[.slice none 0 0,.slice ao L.length c]).run Tryz.prog w = .ok v1 w1):=hr1
 have H2 : Hid (∀ ty,(Builtin.append_ #[24,24] ty #[v1,.slice (some ⟨w1.heap.size,0,none⟩) 3 3]).run Tryz.prog (w1.alloc (.cells #[.int .i64 (-71),.int .i64 (-72),.int .i64 (-73)] 3)) = .ok (.slice (some ⟨g,0,none⟩) (L.length + 3) cap) w2):=hr2
 clear hr1 hr2 hrow hR hO2 hk2 h
 generalize L.length = n at *
 go_enter Tryz.func85,Tryz.ntmps85
 go_wp2_with (first | (at_builtin; refine wpList_append_run rfl _ _ _ rfl _ _ rfl rfl _ _ (H1.out _) ?_) | (at_builtin; refine wpList_append_run rfl _ _ _ rfl _ _ rfl rfl _ _ (H2.out _) ?_))
 go_ret
 exact ⟨⟨_,_,rfl,hfin.1⟩,hfin.2⟩
theorem lentNum_any (neg : Bool) (x : Int) (L : List Int) (hlen : L.length < 10000000) (ao : Option Addr) (c : Nat) (w : World) (h : Sl w (.slice ao L.length c) L) : Calls Tryz.prog 29 #[.agg #[.bool neg,.slice ao L.length c,.int .i64 x]] w fun e w' => (∃ g cap,e = .returned (.tuple #[.slice (some ⟨g,0,none⟩) (L.length + 3) cap,.agg #[.bool neg,.slice (some ⟨g,0,none⟩) L.length cap,.int .i64 x]]) ∧ w.heap.size ≤ g ∧ Own w' g cap (L ++ [-71,-72,-73])) ∧ Kept w w':=by
 have hW : Kept w ((w.alloc (.cells #[.bool neg,.slice ao L.length c,.int .i64 x] 26)).alloc nilNum):=((Kept.refl w).alloc _ _).alloc _ _
 have KL : Hid (Calls Tryz.prog 85 #[.slice ao L.length c] ((w.alloc (.cells #[.bool neg,.slice ao L.length c,.int .i64 x] 26)).alloc nilNum) fun e w' => (∃ g cap,e = .returned (.slice (some ⟨g,0,none⟩) (L.length + 3) cap) ∧ ((w.alloc (.cells #[.bool neg,.slice ao L.length c,.int .i64 x] 26)).alloc nilNum).heap.size ≤ g ∧ L.length ≤ cap ∧ Own w' g cap (L ++ [-71,-72,-73])) ∧ Kept ((w.alloc (.cells #[.bool neg,.slice ao L.length c,.int .i64 x] 26)).alloc nilNum) w'):=by
  refine (lent_any L hlen ao c _ (h.kept hW)).mono ?_
  rintro e w1 ⟨⟨g,cap,rfl,hg,hO⟩,k1⟩
  exact ⟨⟨g,cap,rfl,hg,(by obtain ⟨_,_,h1,_⟩:=hO; simp at h1; omega),hO⟩,k1⟩
 generalize hM : L ++ [-71,-72,-73] = M at *
 generalize L.length = n at *
 go_enter Tryz.func29,Tryz.ntmps29
 go_wp2_with (first | (go_at_call 85; refine KL.out.mono ?_; rintro e w1 ⟨⟨g,cap,rfl,hg,hcap,hO⟩,hk1⟩; simp only [World.size_alloc] at hg; obtain ⟨f0,f1,f2,f3⟩:=res_cells (w.heap.size + 1) (by simp <;> omega) hk1 (by simp [go_sem]) (by simp [go_sem]) (by simp [go_sem]) (fun o => by simp [go_sem]); have b0:=(hk1.below.cell (p:=⟨w.heap.size,0,none⟩) (by simp; omega)).trans (show _ = some (Value.bool neg) by simp [go_sem]); have b1:=(hk1.below.cell (p:=⟨w.heap.size,1,none⟩) (by simp; omega)).trans (show _ = some (Value.slice ao n c) by simp [go_sem]); have b2:=(hk1.below.cell (p:=⟨w.heap.size,2,none⟩) (by simp; omega)).trans (show _ = some (Value.int .i64 x) by simp [go_sem])))
 have kB0 : Kept (w.alloc (.cells #[.bool neg,.slice ao n c,.int .i64 x] 26)) ((w.alloc (.cells #[.bool neg,.slice ao n c,.int .i64 x] 26)).alloc nilNum):=(Kept.refl _).alloc _ _
 have HS : Hid (∀ u,Kept (w.alloc (.cells #[.bool neg,.slice ao n c,.int .i64 x] 26)) u → Kept w u ∧ u.cell? ⟨w.heap.size,0,none⟩ = some (.bool neg) ∧ u.cell? ⟨w.heap.size,1,none⟩ = some (.slice ao n c) ∧ u.cell? ⟨w.heap.size,2,none⟩ = some (.int .i64 x)):=fun u k => ⟨((Kept.refl w).alloc _ _).trans k,(laid_cell k 0).trans (by simp [go_sem]),(laid_cell k 1).trans (by simp [go_sem]),(laid_cell k 2).trans (by simp [go_sem])⟩
 clear b0 b1 b2
 go_region_held (fun u => Kept w u ∧ u.cell? ⟨w.heap.size,0,none⟩ = some (.bool neg) ∧ u.cell? ⟨w.heap.size,1,none⟩ = some (.slice ao n c) ∧ u.cell? ⟨w.heap.size,2,none⟩ = some (.int .i64 x)) (first | exact HS.out _ (kB0.trans hk1.drew) | assumption | exact HS.out _ (res_kept (w.heap.size + 1) (by simp) kB0 hk1.drew _ _ _)) (fail)
 all_goals
  go_wp2
  exact bodyPost_ret (v:=.tuple #[.slice (some ⟨g,0,none⟩) (n + 3) cap,.agg #[.bool neg,.slice (some ⟨g,0,none⟩) n cap,.int .i64 x]]) (by simp [results,Tryz.results29,go_sem,f0,f1,f2]) rfl ⟨⟨g,cap,rfl,by omega,(((hO.kept (Kept.refl _).drew).setOther (by simp; omega) _).setOther (by simp; omega) _).setOther (by simp; omega) _⟩,res_kept (w.heap.size + 1) (by omega) hW hk1.drew _ _ _⟩
theorem back_any (L : List Int) (hlen : L.length < 10000000) (v : Value) (g cap : Nat) (w : World) (h : Sl w v L) (ho : Own w g cap (L ++ [-71,-72,-73])) : Calls Tryz.prog 36 #[.slice (some ⟨g,0,none⟩) (L.length + 3) cap,v] w fun e w' => e = .returned (.bool true) ∧ Grw g w w':=by
 have hcap : L.length + 3 ≤ cap:=by obtain ⟨_,_,h1,_⟩:=ho; simpa using h1
 have KS : Hid (Calls Tryz.prog 91 #[.slice (some ⟨g,0,none⟩) L.length cap,v] w fun e w' => e = .returned (.bool true) ∧ Kept w w'):=by
  have:=ho.slTake L.length (by simp)
  rw [List.take_left'  rfl] at this
  exact same_true L (by omega) _ _ w this h
 have HO : Hid (∀ u,Kept w u → Own u g cap (L ++ [-71,-72,-73])):=fun u k => ho.kept k
 have HC : Hid (∀ u,Kept w u → u.cell? ⟨g,L.length,none⟩ = some (.int .i64 (-71)) ∧ u.cell? ⟨g,L.length + 1,none⟩ = some (.int .i64 (-72)) ∧ u.cell? ⟨g,L.length + 2,none⟩ = some (.int .i64 (-73))):=fun u k => by
  have hq:=ho.kept k
  refine ⟨?_,?_,?_⟩
  ·have:=hq.cell L.length (by simp)
   rw [getD_apr L _ _ 0 (by omega)] at this
   exact this
  ·have:=hq.cell (L.length + 1) (by simp)
   rw [getD_apr L _ _ 1 (by omega)] at this
   exact this
  ·have:=hq.cell (L.length + 2) (by simp)
   rw [getD_apr L _ _ 2 (by omega)] at this
   exact this
 have HL : Hid ((L ++ [-71,-72,-73]).length = L.length + 3):=by simp [Hid]
 obtain ⟨ao,cp,rfl,-,-,-⟩:=h
 generalize hM : L ++ [-71,-72,-73] = M at *
 clear hM ho
 generalize L.length = n at *
 go_enter Tryz.func36,Tryz.ntmps36
 go_wp2_with (first | (go_at_call 91; refine KS.out.mono ?_; rintro e w1 ⟨rfl,k1⟩; obtain ⟨q0,q1,q2⟩:=HC.out _ k1))
 go_loopw [7] (fun i wr => ∃ (k : Nat) (M' : List Int),k ≤ n + 3 ∧ i = .int .i64 k ∧ M'.length = n + 3 ∧ Own wr g cap M' ∧ Grw g w wr) (fun i _ => n + 3 - (intOf i).toNat)
 case atStart => exact ⟨0,M,by omega,rfl,HL.out,HO.out _ k1,k1.toGrw g⟩
 case round =>
  obtain ⟨k,M',hk,rfl,hM',hO,hG⟩:=hrel
  have HO2 : Hid (Own wr g cap M'):=hO
  by_cases hkn : k < n + 3
  ·have hcell:=hO.cell k (by omega)
   have hfree:=hO.free k
   clear hO
   go_wp2
   go_roundw
   case rel => exact ⟨k + 1,M'.set k (-9),by omega,by go_num,by rw [List.length_set]; exact hM',HO2.out.set k (-9),hG.setCell _ _⟩
   case measure => simp [intOf]; omega
  ·obtain rfl : k = n + 3:=by omega
   go_wp2
   go_ret
   exact ⟨rfl,hG⟩
/-- What is turned between two worlds is in the listed blocks,or new. -/
structure GrwS (S : List Nat) (w w' : World) : Prop where
 os : w'.os = w.os
 tape : w'.tape = w.tape
 output : w'.output = w.output
 size : w.heap.size ≤ w'.heap.size
 block : ∀ i,i < w.heap.size → i ∉ S → w'.heap[i]? = w.heap[i]?
 frozen : ∀ a,w'.frozen? a = w.frozen? a
theorem GrwS.refl (S : List Nat) (w : World) : GrwS S w w:=⟨rfl,rfl,rfl,Nat.le_refl _,fun _ _ _ => rfl,fun _ => rfl⟩
theorem GrwS.trans {S : List Nat} {a b c : World} (h : GrwS S a b) (k : GrwS S b c) : GrwS S a c :=
 ⟨k.os.trans h.os,k.tape.trans h.tape,k.output.trans h.output,Nat.le_trans h.size k.size,fun i hi hn => (k.block i (Nat.lt_of_lt_of_le hi h.size) hn).trans (h.block i hi hn),fun x => (k.frozen x).trans (h.frozen x)⟩
theorem GrwS.mono {S S' : List Nat} {a b : World} (h : GrwS S a b) (hs : ∀ i ∈ S,i ∈ S') : GrwS S' a b :=
 ⟨h.os,h.tape,h.output,h.size,fun i hi hn => h.block i hi (fun hm => hn (hs i hm)),h.frozen⟩
/-- What is turned besides is new to the first world. -/
theorem GrwS.then {S S' : List Nat} {a b c : World} (h : GrwS S a b) (k : GrwS S' b c) (hs : ∀ i ∈ S',i ∈ S ∨ a.heap.size ≤ i) : GrwS S a c :=
 ⟨k.os.trans h.os,k.tape.trans h.tape,k.output.trans h.output,Nat.le_trans h.size k.size,fun i hi hn => (k.block i (Nat.lt_of_lt_of_le hi h.size) (fun hm => by rcases hs i hm with h1 | h1; exact hn h1; omega)).trans (h.block i hi hn),fun x => (k.frozen x).trans (h.frozen x)⟩
theorem Kept.toS {a b : World} (S : List Nat) (h : Kept a b) : GrwS S a b:=⟨h.below.os,h.below.tape,h.below.output,h.below.size,fun i hi _ => h.below.block i hi,h.frozen⟩
theorem Grw.toS {g : Nat} {a b : World} (h : Grw g a b) : GrwS [g] a b:=⟨h.grown.os,h.grown.tape,h.grown.output,h.grown.size,fun i hi hn => h.grown.block i hi (by simpa using hn),h.frozen⟩
theorem Kept.grwS {S : List Nat} {a b c : World} (h : Kept a b) (hS : ∀ i ∈ S,a.heap.size ≤ i) (k : GrwS S b c) : Kept a c :=
 ⟨⟨k.os.trans h.below.os,k.tape.trans h.below.tape,k.output.trans h.below.output,Nat.le_trans h.below.size k.size,fun i hi => (k.block i (Nat.lt_of_lt_of_le hi h.below.size) (fun hm => by have:=hS i hm; omega)).trans (h.below.block i hi)⟩,fun x => (k.frozen x).trans (h.frozen x)⟩
theorem GrwS.setCell {S : List Nat} {a b : World} (h : GrwS S a b) {p : Addr} (hp : p.block ∈ S ∨ a.heap.size ≤ p.block) (u : Value) : GrwS S a (b.setCell p u) :=
 ⟨h.os,h.tape,h.output,by simpa using h.size,fun i hi hn => (Below.heap_setCell b p u i (fun e => by subst e; rcases hp with h1 | h1; exact hn h1; omega)).trans (h.block i hi hn),fun x => (World.frozen?_setCell _ _ _ _).trans (h.frozen x)⟩
def blk (v : Value) : List Nat:=match v with
 | .slice (some a) _ _ => [a.block]
 | _ => []
theorem OwnV.grwS {S : List Nat} {w w' : World} {g cap : Nat} {e : TypeId} {V : List Value} (h : OwnV w g cap e V) (k : GrwS S w w') (hne : g ∉ S) : OwnV w' g cap e V:=by
 have hl:=h.lt
 obtain ⟨cur,hg,r⟩:=h
 exact ⟨cur,(k.block g hl hne).trans hg,r⟩
theorem Rw.lt {w : World} {v : Value} {e : TypeId} {V : List Value} (h : Rw w v e V) : ∀ b ∈ blk v,b < w.heap.size:=by
 rcases h with ⟨-,rfl⟩ | ⟨g,cap,rfl,ho⟩
 ·intro b hb; cases hb
 ·intro b hb
  obtain rfl : b = g:=by simpa [blk] using hb
  exact ho.lt
theorem Rw.grwS {S : List Nat} {w w' : World} {v : Value} {e : TypeId} {V : List Value} (h : Rw w v e V) (k : GrwS S w w') (hn : ∀ b ∈ blk v,b ∉ S) : Rw w' v e V:=by
 rcases h with h | ⟨g,cap,rfl,ho⟩
 ·exact .inl h
 ·exact .inr ⟨g,cap,rfl,ho.grwS k (hn g (by simp [blk]))⟩
theorem Rw.kept {w w' : World} {v : Value} {e : TypeId} {V : List Value} (h : Rw w v e V) (k : Kept w w') : Rw w' v e V:=h.grwS (k.toS []) (fun _ _ h => by cases h)
theorem Rw.sl {w : World} {v : Value} {L : List Int} (h : Rw w v 3 (L.map (Value.int .i64))) : Sl w v L:=by
 rcases h with ⟨e,rfl⟩ | ⟨g,cap,rfl,ho⟩
 ·obtain rfl : L = []:=by simpa using e
  exact ⟨none,0,rfl,Nat.le_refl _,by simp [maxLen],fun h => absurd rfl h⟩
 ·have:=(own_v.2 ho).sl
  rw [List.length_map]
  exact this
theorem Rw.shape {w : World} {v : Value} {e : TypeId} {V : List Value} (h : Rw w v e V) : ∃ ao c,v = .slice ao V.length c:=by
 rcases h with ⟨rfl,rfl⟩ | ⟨g,cap,rfl,ho⟩
 ·exact ⟨_,_,rfl⟩
 ·exact ⟨_,_,rfl⟩
abbrev ints (L : List Int) : List Value:=L.map (Value.int .i64)
theorem Sl.shape {w : World} {v : Value} {L : List Int} (h : Sl w v L) : ∃ ao c,v = .slice ao L.length c:=by
 obtain ⟨ao,c,e,-⟩:=h
 exact ⟨ao,c,e⟩
def updM (M : Nat → List Int) (i : Nat) (L : List Int) : Nat → List Int:=fun j => if j = i then L else M j
def Mk (n : Nat → Nat) (M : Nat → List Int) (k j : Nat) : Prop:=(∀ i,i < k → ∀ t,t < n i → (M i).getD t 0 = -2 - (i : Int)) ∧ ∀ t,t < j → (M k).getD t 0 = -2 - (k : Int)
theorem Mk.start (n : Nat → Nat) (M : Nat → List Int) : Mk n M 0 0:=⟨fun i h => by omega,fun t h => by omega⟩
theorem Mk.step {n : Nat → Nat} {M : Nat → List Int} {k j : Nat} (h : Mk n M k j) (hj : j < (M k).length) : Mk n (updM M k ((M k).set j (-2 - (k : Int)))) k (j + 1):=by
 refine ⟨fun i hi t ht => ?_,fun t ht => ?_⟩
 ·unfold updM
  rw [if_neg (by omega)]
  exact h.1 i hi t ht
 ·unfold updM
  rw [if_pos rfl,List.getD_eq_getElem?_getD,List.getElem?_set]
  split
  ·rfl
  ·rw [← List.getD_eq_getElem?_getD]
   exact h.2 t (by omega)
theorem Mk.next {n : Nat → Nat} {M : Nat → List Int} {k : Nat} (h : Mk n M k (n k)) : Mk n M (k + 1) 0:=by
 refine ⟨fun i hi t ht => ?_,fun t ht => by omega⟩
 by_cases e : i = k
 ·subst e; exact h.2 t ht
 ·exact h.1 i (by omega) t ht
def natV (n : Nat) (d : Int) (g : Bool) : Bool:=decide ((n : Int) ≤ 2000) && (d != 0) && g
theorem natValid_some (L : List Int) (hR : Rg L) (b off cap : Nat) (w : World) (hlen : L.length < 100000000) (hne : L ≠ []) (hr : Reads w b off L) : Calls Tryz.prog 143 #[.slice (some ⟨b,off,none⟩) L.length cap] w fun e w' => e = .returned (.bool (natV L.length (L.getD (L.length - 1) 0) (dgb L))) ∧ w = w':=by
 have hpos:=List.length_pos_iff.2 hne
 have hlast:=hr (L.length - 1) (by omega)
 obtain ⟨n,hn⟩ : ∃ n,n + 1 = L.length:=⟨L.length - 1,by omega⟩
 have HN : Hid (n + 1 = L.length):=hn
 have HR : Hid (Reads w b off L):=hr
 rw [← hn] at hlen hlast ⊢
 rw [Nat.add_sub_cancel] at hlast ⊢
 obtain ⟨dl,hdl⟩ : ∃ d,d = L.getD n 0:=⟨_,rfl⟩
 rw [← hdl] at hlast ⊢
 have HD0 : Hid (dl = L.getD n 0):=hdl
 clear hr hn hpos hdl
 by_cases hbig : 2000 < n + 1
 ·have e1 : natV (n + 1) dl (dgb L) = false:=by unfold natV; rw [decide_eq_false (by omega)]; rfl
  rw [e1]
  go_enter Tryz.func143,Tryz.ntmps143
  go_wp2
  go_ret
  exact ⟨rfl,rfl⟩
 ·by_cases hz : dl = 0
  ·have e1 : natV (n + 1) dl (dgb L) = false:=by unfold natV; simp [hz]
   rw [e1]
   have hz' : (dl == 0) = true:=by simp [hz]
   go_enter Tryz.func143,Tryz.ntmps143
   go_wp2
   go_ret
   exact ⟨rfl,rfl⟩
  ·have e1 : natV (n + 1) dl (dgb L) = dgb L:=by unfold natV; rw [decide_eq_true (by omega)]; simp [hz]
   rw [e1]
   have hz' : (dl == 0) = false:=by simp [hz]
   clear e1
   go_enter Tryz.func143,Tryz.ntmps143
   go_wp2
   go_loop [3] (fun i => ∃ k : Nat,k ≤ n + 1 ∧ i = .int .i64 k ∧ ∀ j,j < k → 0 ≤ L.getD j 0 ∧ L.getD j 0 < 1073741824) (fun i => n + 1 - (intOf i).toNat)
   case atStart => exact ⟨0,Nat.zero_le _,rfl,fun j h => by omega⟩
   case round =>
    obtain ⟨k,hk,rfl,hd⟩:=hrel
    have HD : Hid (∀ j,j < k → 0 ≤ L.getD j 0 ∧ L.getD j 0 < 1073741824):=hd
    clear hd
    by_cases hkn : k < n + 1
    ·have hcell:=HR.out k (by rw [← HN.out]; exact hkn)
     obtain ⟨d,hd⟩ : ∃ d,d = L.getD k 0:=⟨_,rfl⟩
     have HE : Hid (d = L.getD k 0):=hd
     rw [← hd] at hcell
     clear hd
     by_cases hz2 : 0 ≤ d
     ·by_cases hz3 : d < 1073741824
      ·go_wp2
       go_round
       case rel =>
        refine ⟨k + 1,by omega,by go_num,fun j hj => ?_⟩
        by_cases hjk : j = k
        ·subst hjk; rw [← HE.out]; exact ⟨hz2,hz3⟩
        ·exact HD.out j (by omega)
       case measure => simp [intOf]; omega
      ·go_wp2
       go_ret
       refine ⟨?_,rfl⟩
       rw [dgb_false L k (by rw [← HN.out]; exact hkn) (by rw [← HE.out]; omega)]
       rfl
     ·go_wp2
      go_ret
      refine ⟨?_,rfl⟩
      rw [dgb_false L k (by rw [← HN.out]; exact hkn) (by rw [← HE.out]; omega)]
      rfl
    ·go_wp2
     go_ret
     refine ⟨?_,rfl⟩
     rw [dgb_true L (fun j hj => HD.out j (by rw [← HN.out] at hj; omega))]
     rfl
theorem rvalid_nil (neg : Bool) (ao : Option Addr) (cap : Nat) (x : Int) (w : World) : Calls Tryz.prog 93 #[.agg #[.bool neg,.slice ao 0 cap,.int .i64 x]] w fun e w' => e = .returned (.bool (!neg && x == 0)) ∧ Kept w w':=by
 cases neg
 all_goals
  go_enter Tryz.func93,Tryz.ntmps93
  go_wp2
  go_ret
  exact ⟨by simp,(Kept.refl _).alloc _ _⟩
theorem rvalid_no (neg : Bool) (n b off cap : Nat) (hn : n < 100000000) (x : Int) (w : World)
  (K : Hid (∀ w' : World,Kept w w' → Calls Tryz.prog 143 #[.slice (some ⟨b,off,none⟩) (n + 1) cap] w' fun e w'' => e = .returned (.bool false) ∧ w' = w'')) :
  Calls Tryz.prog 93 #[.agg #[.bool neg,.slice (some ⟨b,off,none⟩) (n + 1) cap,.int .i64 x]] w fun e w' => e = .returned (.bool false) ∧ Kept w w':=by
 have hK:=(Kept.refl w).alloc #[.bool neg,.slice (some ⟨b,off,none⟩) (n + 1) cap,.int .i64 x] 26
 go_enter Tryz.func93,Tryz.ntmps93
 go_wp2_with (first | (go_at_call 143; refine (K.out _ hK).mono ?_; rintro e w1 ⟨rfl,rfl⟩))
 go_ret
 exact ⟨rfl,hK⟩
theorem rvalid_yes (neg : Bool) (n b off cap : Nat) (hn : n < 100000000) (d0 x : Int) (h0 : 0 ≤ d0) (w : World) (hb : b < w.heap.size) (hc : w.cell? ⟨b,off,none⟩ = some (.int .i64 d0))
  (K : Hid (∀ w' : World,Kept w w' → Calls Tryz.prog 143 #[.slice (some ⟨b,off,none⟩) (n + 1) cap] w' fun e w'' => e = .returned (.bool true) ∧ w' = w'')) :
  Calls Tryz.prog 93 #[.agg #[.bool neg,.slice (some ⟨b,off,none⟩) (n + 1) cap,.int .i64 x]] w fun e w' => e = .returned (.bool ((d0 % 2 == 1) && decide (-1048576 ≤ x) && decide (x ≤ 1048576))) ∧ Kept w w':=by
 have hK:=(Kept.refl w).alloc #[.bool neg,.slice (some ⟨b,off,none⟩) (n + 1) cap,.int .i64 x] 26
 have c0:=(hK.below.cell (p:=⟨b,off,none⟩) hb).trans hc
 clear hc
 obtain ⟨r,hr⟩ : ∃ r,r = ((d0 % 2 == 1) && decide (-1048576 ≤ x) && decide (x ≤ 1048576)):=⟨_,rfl⟩
 rw [← hr]
 have HR : Hid (r = ((d0 % 2 == 1) && decide (-1048576 ≤ x) && decide (x ≤ 1048576))):=hr
 clear hr
 go_enter Tryz.func93,Tryz.ntmps93
 go_wp2_with (first | (go_at_call 143; refine (K.out _ hK).mono ?_; rintro e w1 ⟨rfl,rfl⟩))
 all_goals
  go_ret
  refine ⟨?_,hK⟩
  rw [HR.out]
  clear HR c0 K hK
  simp_all
  try omega
theorem rvalid_any (x : Nm) (hR : Rg x.mag) (hlen : x.mag.length < 100000000) (v : Value) (w : World) (h : NumAt w v x) : Calls Tryz.prog 93 #[v] w fun e w' => e = .returned (.bool (vld x)) ∧ Kept w w':=by
 obtain ⟨neg,L,ex⟩:=x
 dsimp only at hR hlen
 obtain ⟨s,rfl,ao,cap,rfl,hc,hm,hr⟩:=h
 dsimp only at hc hr
 unfold vld
 by_cases hne : L = []
 ·subst hne; exact rvalid_nil neg ao cap ex w
 ·obtain ⟨b,off,rfl,hb,hr⟩:=hr hne
  have hpos:=List.length_pos_iff.2 hne
  simp only [hne,if_false]
  have K : ∀ w' : World,Kept w w' → Calls Tryz.prog 143 #[.slice (some ⟨b,off,none⟩) L.length cap] w' fun e w'' => e = .returned (.bool (natV L.length (L.getD (L.length - 1) 0) (dgb L))) ∧ w' = w'':=fun w' k => natValid_some L hR b off cap w' hlen hne (hr.kept hb k)
  have h0:=hr 0 hpos
  obtain ⟨n,hn⟩ : ∃ n,L.length = n + 1:=⟨L.length - 1,by omega⟩
  cases hv : natV L.length (L.getD (L.length - 1) 0) (dgb L) with
  | false =>
   rw [hv] at K
   have : vldN L.length (dgb L) (L.getD (L.length - 1) 0) (L.getD 0 0) ex = false:=by
    unfold natV at hv
    unfold vldN
    cases h1 : decide ((L.length : Int) ≤ 2000)
    ·simp
    ·rw [h1] at hv
     cases h2 : (L.getD (L.length - 1) 0 != 0)
     ·simp
     ·rw [h2] at hv
      have : dgb L = false:=by simpa using hv
      rw [this]
      simp
   rw [this]
   rw [hn] at K ⊢
   exact rvalid_no neg n b off cap (by omega) ex w K
  | true =>
   rw [hv] at K
   unfold natV at hv
   simp only [Bool.and_eq_true] at hv
   obtain ⟨⟨h1,h2⟩,h3⟩:=hv
   have hd:=((dgb_iff L).1 h3).getD 0
   have : vldN L.length (dgb L) (L.getD (L.length - 1) 0) (L.getD 0 0) ex = ((L.getD 0 0 % 2 == 1) && decide (-1048576 ≤ ex) && decide (ex ≤ 1048576)):=by
    unfold vldN
    rw [h1,h2,h3,and_one]
    simp
   rw [this]
   rw [hn] at K ⊢
   exact rvalid_yes neg n b off cap (by omega) _ ex (by omega) w hb h0 K
theorem NumAt.shape {w : World} {v : Value} {x : Nm} (h : NumAt w v x) : ∃ ao c,v = .agg #[.bool x.neg,.slice ao x.mag.length c,.int .i64 x.exp]:=by
 obtain ⟨s,rfl,ao,c,rfl,-⟩:=h
 exact ⟨ao,c,rfl⟩
theorem rvalid2_any (x : Nm) (hR : Rg x.mag) (hlen : x.mag.length < 100000000) (v : Value) (w : World) (h : NumAt w v x) : Calls Tryz.prog 38 #[v] w fun e w' => e = .returned (.bool (vld x)) ∧ Kept w w':=by
 obtain ⟨ao,c,rfl⟩:=h.shape
 have K : Hid (∀ u,Kept w u → Calls Tryz.prog 93 #[.agg #[.bool x.neg,.slice ao x.mag.length c,.int .i64 x.exp]] u fun e w' => e = .returned (.bool (vld x)) ∧ Kept u w'):=fun u k => rvalid_any x hR hlen _ u (h.kept k)
 have hK:=(Kept.refl w).alloc #[.bool x.neg,.slice ao x.mag.length c,.int .i64 x.exp] 26
 generalize vld x = b at *
 generalize x.mag.length = n at *
 generalize x.neg = ng at *
 generalize x.exp = ex at *
 clear h
 go_enter Tryz.func38,Tryz.ntmps38
 go_wp2_with (first | (go_at_call 93; refine (K.out _ hK).mono ?_; rintro e w1 ⟨rfl,k1⟩))
 go_ret
 exact ⟨rfl,hK.trans k1⟩
theorem turned_any (ng : Bool) (ao : Option Addr) (n c : Nat) (ex : Int) (w : World) :
  Calls Tryz.prog 145 #[.agg #[.bool ng,.slice ao n c,.int .i64 ex]] w fun e w' => e = .returned (.agg #[.bool (if n = 0 then ng else !ng),.slice ao n c,.int .i64 ex]) ∧ Kept w w':=by
 have hK : Kept w ((w.alloc (.cells #[.bool ng,.slice ao n c,.int .i64 ex] 26)).alloc nilNum):=((Kept.refl w).alloc _ _).alloc _ _
 rcases n with _ | n
 all_goals
  go_enter Tryz.func145,Tryz.ntmps145
  go_wp2
 ·exact bodyPost_ret (v:=.agg #[.bool ng,.slice ao 0 c,.int .i64 ex]) (by simp [results,Tryz.results145,go_sem]) rfl ⟨rfl,((Kept.refl w).alloc _ _).alloc _ _⟩
 ·exact bodyPost_ret (v:=.agg #[.bool (!ng),.slice ao (n + 1) c,.int .i64 ex]) (by simp [results,Tryz.results145,go_sem]) rfl ⟨rfl,((Kept.refl w).alloc _ _).alloc _ _⟩
theorem rsig_any (ng : Bool) (ao : Option Addr) (n c : Nat) (ex : Int) (w : World) :
  Calls Tryz.prog 150 #[.agg #[.bool ng,.slice ao n c,.int .i64 ex]] w fun e w' => e = .returned (.int .i64 (if n = 0 then 0 else if ng then -1 else 1)) ∧ Kept w w':=by
 rcases n with _ | n
 ·go_enter Tryz.func150,Tryz.ntmps150
  go_wp2
  go_ret
  exact ⟨rfl,(Kept.refl _).alloc _ _⟩
 ·cases ng
  all_goals
   go_enter Tryz.func150,Tryz.ntmps150
   go_wp2
   go_ret
   exact ⟨rfl,(Kept.refl _).alloc _ _⟩
end Go.Proofs.YtdhimkpfnhoagaaGreatDoor
