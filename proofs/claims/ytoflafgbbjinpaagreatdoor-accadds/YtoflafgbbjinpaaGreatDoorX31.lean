/- Lists that were answered,kept: the walk of the laws' own Keep.Add. The walk of the laws' own Keep.Add. Append of noughts; the lists that were answered,marked and grown. The walk of the laws' own Keep.Apart. -/
import Derived.Test.YtoflafgbbjinpaaGreatDoorX30
namespace Go.Proofs.YtoflafgbbjinpaaGreatDoor
open Go.ChangeShapes Go.WideShapes Go.ChangeAt Go.RowKit
set_option linter.unusedVariables false
set_option linter.unusedSimpArgs false
set_option maxHeartbeats 16000000
set_option maxRecDepth 100000
/-- What is turned between two worlds is in the listed blocks,or new. -/
structure GrwS (S : List Nat) (w w' : World) : Prop where
 os : w'.os = w.os
 tape : w'.tape = w.tape
 output : w'.output = w.output
 size : w.heap.size ≤ w'.heap.size
 block : ∀ i,i < w.heap.size → i ∉ S → w'.heap[i]? = w.heap[i]?
 frozen : ∀ a,w'.frozen? a = w.frozen? a
theorem GrwS.refl (S : List Nat) (w : World) : GrwS S w w:=⟨rfl,rfl,rfl,Nat.le_refl _,fun _ _ _ => rfl,fun _ => rfl⟩
theorem GrwS.trans {S : List Nat} {a b c : World} (h : GrwS S a b) (k : GrwS S b c) : GrwS S a c :=
 ⟨k.os.trans h.os,k.tape.trans h.tape,k.output.trans h.output,Nat.le_trans h.size k.size,fun i hi hn => (k.block i (Nat.lt_of_lt_of_le hi h.size) hn).trans (h.block i hi hn),fun x => (k.frozen x).trans (h.frozen x)⟩
theorem GrwS.mono {S S' : List Nat} {a b : World} (h : GrwS S a b) (hs : ∀ i ∈ S,i ∈ S') : GrwS S' a b :=
 ⟨h.os,h.tape,h.output,h.size,fun i hi hn => h.block i hi (fun hm => hn (hs i hm)),h.frozen⟩
/-- What is turned besides is new to the first world. -/
theorem GrwS.then {S S' : List Nat} {a b c : World} (h : GrwS S a b) (k : GrwS S' b c) (hs : ∀ i ∈ S',i ∈ S ∨ a.heap.size ≤ i) : GrwS S a c :=
 ⟨k.os.trans h.os,k.tape.trans h.tape,k.output.trans h.output,Nat.le_trans h.size k.size,fun i hi hn => (k.block i (Nat.lt_of_lt_of_le hi h.size) (fun hm => by rcases hs i hm with h1 | h1; exact hn h1; omega)).trans (h.block i hi hn),fun x => (k.frozen x).trans (h.frozen x)⟩
theorem Kept.toS {a b : World} (S : List Nat) (h : Kept a b) : GrwS S a b:=⟨h.below.os,h.below.tape,h.below.output,h.below.size,fun i hi _ => h.below.block i hi,h.frozen⟩
theorem Grw.toS {g : Nat} {a b : World} (h : Grw g a b) : GrwS [g] a b:=⟨h.grown.os,h.grown.tape,h.grown.output,h.grown.size,fun i hi hn => h.grown.block i hi (by simpa using hn),h.frozen⟩
theorem Kept.grwS {S : List Nat} {a b c : World} (h : Kept a b) (hS : ∀ i ∈ S,a.heap.size ≤ i) (k : GrwS S b c) : Kept a c :=
 ⟨⟨k.os.trans h.below.os,k.tape.trans h.below.tape,k.output.trans h.below.output,Nat.le_trans h.below.size k.size,fun i hi => (k.block i (Nat.lt_of_lt_of_le hi h.below.size) (fun hm => by have:=hS i hm; omega)).trans (h.below.block i hi)⟩,fun x => (k.frozen x).trans (h.frozen x)⟩
theorem GrwS.setCell {S : List Nat} {a b : World} (h : GrwS S a b) {p : Addr} (hp : p.block ∈ S ∨ a.heap.size ≤ p.block) (u : Value) : GrwS S a (b.setCell p u) :=
 ⟨h.os,h.tape,h.output,by simpa using h.size,fun i hi hn => (Below.heap_setCell b p u i (fun e => by subst e; rcases hp with h1 | h1; exact hn h1; omega)).trans (h.block i hi hn),fun x => (World.frozen?_setCell _ _ _ _).trans (h.frozen x)⟩
def blk (v : Value) : List Nat:=match v with
 | .slice (some a) _ _ => [a.block]
 | _ => []
theorem blk_nodup (v : Value) : (blk v).Nodup:=by
 unfold blk
 split <;> simp
theorem OwnV.grwS {S : List Nat} {w w' : World} {g cap : Nat} {e : TypeId} {V : List Value} (h : OwnV w g cap e V) (k : GrwS S w w') (hne : g ∉ S) : OwnV w' g cap e V:=by
 have hl:=h.lt
 obtain ⟨cur,hg,r⟩:=h
 exact ⟨cur,(k.block g hl hne).trans hg,r⟩
theorem Rw.lt {w : World} {v : Value} {e : TypeId} {V : List Value} (h : Rw w v e V) : ∀ b ∈ blk v,b < w.heap.size:=by
 rcases h with ⟨-,rfl⟩ | ⟨g,cap,rfl,ho⟩
 ·intro b hb; cases hb
 ·intro b hb
  obtain rfl : b = g:=by simpa [blk] using hb
  exact ho.lt
theorem Rw.grwS {S : List Nat} {w w' : World} {v : Value} {e : TypeId} {V : List Value} (h : Rw w v e V) (k : GrwS S w w') (hn : ∀ b ∈ blk v,b ∉ S) : Rw w' v e V:=by
 rcases h with h | ⟨g,cap,rfl,ho⟩
 ·exact .inl h
 ·exact .inr ⟨g,cap,rfl,ho.grwS k (hn g (by simp [blk]))⟩
theorem Rw.kept {w w' : World} {v : Value} {e : TypeId} {V : List Value} (h : Rw w v e V) (k : Kept w w') : Rw w' v e V:=h.grwS (k.toS []) (fun _ _ h => by cases h)
theorem Rw.sl {w : World} {v : Value} {L : List Int} (h : Rw w v 3 (L.map (Value.int .i64))) : Sl w v L:=by
 rcases h with ⟨e,rfl⟩ | ⟨g,cap,rfl,ho⟩
 ·obtain rfl : L = []:=by simpa using e
  exact ⟨none,0,rfl,Nat.le_refl _,by simp [maxLen],fun h => absurd rfl h⟩
 ·have:=(own_v.2 ho).sl
  rw [List.length_map]
  exact this
theorem Rw.shape {w : World} {v : Value} {e : TypeId} {V : List Value} (h : Rw w v e V) : ∃ ao c,v = .slice ao V.length c:=by
 rcases h with ⟨rfl,rfl⟩ | ⟨g,cap,rfl,ho⟩
 ·exact ⟨_,_,rfl⟩
 ·exact ⟨_,_,rfl⟩
theorem lli_info : (Tryz.prog.info? 22).map (fun i => (i.zero,i.size,i.bytes)) = some (some (.slice none 0 0),1,24):=by kernel_rfl
theorem lli_under : Tryz.prog.underlying 28 = some (.slice 22):=by kernel_rfl
/-- One more behind a row of slices. -/
theorem app_one (w : World) (v : Value) (olds : List Value) (hv : Rw w v 22 olds) (x : Value) (hx : x.oneCell' = true) (hsz : olds.length + 1 < 100000000) :
  ∃ v' w',(∀ ty,(Builtin.append_ #[28,28] ty #[v,.slice (some ⟨w.heap.size,0,none⟩) 1 1]).run Tryz.prog (w.alloc (.cells #[x] 22)) = .ok v' w') ∧ Rw w' v' 22 (olds ++ [x]) ∧ GrwS (blk v) w w' ∧ (∀ b ∈ blk v',b ∈ blk v ∨ w.heap.size ≤ b):=by
 have k0 : Kept w (w.alloc (.cells #[x] 22)):=(Kept.refl w).alloc _ _
 obtain ⟨g,cap,w',hr,hO,hk⟩:=app_gen 28 22 lli_under (.slice none 0 0) 24 lli_info (by simp [Value.cells]) (by omega) (w.alloc (.cells #[x] 22)) v olds [x] (hv.kept k0) ⟨w.heap.size,0,none⟩ 1 1 rfl (fun j u hj => by
  rw [Addr.add_lit,Nat.zero_add]
  rcases j with _ | j
  ·cases hj; simp [go_sem]
  ·simp at hj) (fun u hu => by simp at hu; rw [hu]; exact hx) (by omega) hsz
 refine ⟨_,w',hr,.inr ⟨g,cap,by simp,hO⟩,?_,?_⟩
 ·rcases hk with ⟨-,k⟩ | ⟨rfl,k⟩
  ·exact (k0.trans k).toS _
  ·exact (k0.toS _).trans (by simpa [blk] using k.toS)
 ·intro b hb
  obtain rfl : b = g:=by simpa [blk] using hb
  rcases hk with ⟨rfl,-⟩ | ⟨rfl,-⟩
  ·right; simp
  ·left; simp [blk]
structure Ent where
 v : Value
 u : Value
 L : List Int
def blks (kb : Nat) (vL vW : Value) (E : List Ent) : List Nat:=kb :: (blk vL ++ blk vW ++ E.flatMap fun x => blk x.v ++ blk x.u)
abbrev ints (L : List Int) : List Value:=L.map (Value.int .i64)
structure KeepAt (w0 w : World) (kb : Nat) (vL vW : Value) (E : List Ent) : Prop where
 kept : Kept w0 w
 cells : w.heap[kb]? = some (.cells #[vL,vW] 30 (0,0))
 rows : Rw w vL 22 (E.map Ent.v)
 was : Rw w vW 22 (E.map Ent.u)
 each : ∀ x ∈ E,Rw w x.v 3 (ints x.L) ∧ Rw w x.u 3 (ints x.L) ∧ x.L.length < 10000000
 apart : (blks kb vL vW E).Nodup
 new : ∀ b ∈ blks kb vL vW E,w0.heap.size ≤ b
theorem KeepAt.lt {w0 w : World} {kb : Nat} {vL vW : Value} {E : List Ent} (h : KeepAt w0 w kb vL vW E) : ∀ b ∈ blks kb vL vW E,b < w.heap.size:=by
 intro b hb
 unfold blks at hb
 rcases List.mem_cons.1 hb with rfl | hb
 ·exact lt_of_block h.cells
 ·rcases List.mem_append.1 hb with hb | hb
  ·rcases List.mem_append.1 hb with hb | hb
   ·exact h.rows.lt b hb
   ·exact h.was.lt b hb
  ·obtain ⟨x,hx,hb⟩:=List.mem_flatMap.1 hb
   obtain ⟨h1,h2,-⟩:=h.each x hx
   rcases List.mem_append.1 hb with hb | hb
   ·exact h1.lt b hb
   ·exact h2.lt b hb
/-- What lies elsewhere may be turned. -/
theorem KeepAt.grwS {w0 w w' : World} {kb : Nat} {vL vW : Value} {E : List Ent} {S : List Nat} (h : KeepAt w0 w kb vL vW E) (k : GrwS S w w') (hS : ∀ b ∈ blks kb vL vW E,b ∉ S) (hn : ∀ b ∈ S,w0.heap.size ≤ b) : KeepAt w0 w' kb vL vW E:=by
 have hl:=h.lt
 refine ⟨h.kept.grwS hn k,(k.block kb (hl kb (by simp [blks])) (hS kb (by simp [blks]))).trans h.cells,h.rows.grwS k (fun b hb => hS b (by simp [blks,hb])),h.was.grwS k (fun b hb => hS b (by simp [blks,hb])),fun x hx => ?_,h.apart,h.new⟩
 obtain ⟨h1,h2,h3⟩:=h.each x hx
 exact ⟨h1.grwS k (fun b hb => hS b (by simp only [blks,List.mem_cons,List.mem_append,List.mem_flatMap]; exact .inr (.inr ⟨x,hx,.inl hb⟩))),h2.grwS k (fun b hb => hS b (by simp only [blks,List.mem_cons,List.mem_append,List.mem_flatMap]; exact .inr (.inr ⟨x,hx,.inr hb⟩))),h3⟩
theorem KeepAt.keptOn {w0 w w' : World} {kb : Nat} {vL vW : Value} {E : List Ent} (h : KeepAt w0 w kb vL vW E) (k : Kept w w') : KeepAt w0 w' kb vL vW E:=h.grwS (k.toS []) (fun _ _ h => by cases h) (fun _ h => by cases h)
theorem blks_snoc (kb : Nat) (vL vW : Value) (E : List Ent) (x : Ent) : blks kb vL vW (E ++ [x]) = kb :: (blk vL ++ blk vW ++ (E.flatMap (fun x => blk x.v ++ blk x.u) ++ (blk x.v ++ blk x.u))):=by
 simp [blks]
theorem Sl.shape {w : World} {v : Value} {L : List Int} (h : Sl w v L) : ∃ ao c,v = .slice ao L.length c:=by
 obtain ⟨ao,c,e,-⟩:=h
 exact ⟨ao,c,e⟩
/-- What Add leaves,from the steps' own facts. -/
theorem keep_snoc {w0 w w2 w4 w6 : World} {kb : Nat} {vL vW l v2 v4 v6 : Value} {E : List Ent} {L : List Int} (hK : KeepAt w0 w kb vL vW E) (hL : L.length < 10000000) (hl : Rw w l 3 (ints L)) (hd : ∀ b ∈ blk l,b ∉ blks kb vL vW E) (hn : ∀ b ∈ blk l,w0.heap.size ≤ b)
  (hR2 : Rw w2 v2 22 (E.map Ent.v ++ [l])) (hG2 : GrwS (blk vL) w w2) (hB2 : ∀ b ∈ blk v2,b ∈ blk vL ∨ w.heap.size ≤ b)
  (k4 : Kept (w2.setCell ⟨kb,0,none⟩ v2).drew w4) (hR4 : Rw w4 v4 3 (ints L)) (hB4 : ∀ b ∈ blk v4,w2.heap.size ≤ b)
  (hR6 : Rw w6 v6 22 (E.map Ent.u ++ [v4])) (hG6 : GrwS (blk vW) w4 w6) (hB6 : ∀ b ∈ blk v6,b ∈ blk vW ∨ w4.heap.size ≤ b) :
  KeepAt w0 (w6.setCell ⟨kb,1,none⟩ v6) kb v2 v6 (E ++ [⟨l,v4,L⟩]) ∧ GrwS (kb :: (blk vL ++ blk vW)) w (w6.setCell ⟨kb,1,none⟩ v6) ∧ ∀ b ∈ blks kb v2 v6 (E ++ [⟨l,v4,L⟩]),b ∈ blks kb vL vW E ∨ b ∈ blk l ∨ w.heap.size ≤ b:=by
 have hlt:=hK.lt
 have hkb:=hlt kb (by simp [blks])
 have hap:=hK.apart
 unfold blks at hap
 rw [List.nodup_cons,List.nodup_append,List.nodup_append] at hap
 obtain ⟨hk0,⟨nL,nW,dLW⟩,nE,dE⟩:=hap
 have iL : ∀ b ∈ blk vL,b ∈ blks kb vL vW E:=fun b hb => by simp [blks,hb]
 have iW : ∀ b ∈ blk vW,b ∈ blks kb vL vW E:=fun b hb => by simp [blks,hb]
 have iE : ∀ b ∈ (E.flatMap fun x => blk x.v ++ blk x.u),b ∈ blks kb vL vW E:=fun b hb => List.mem_cons.2 (.inr (List.mem_append.2 (.inr hb)))
 have kL : kb ∉ blk vL:=fun h => hk0 (by simp [h])
 have kW : kb ∉ blk vW:=fun h => hk0 (by simp [h])
 have kE : kb ∉ (E.flatMap fun x => blk x.v ++ blk x.u):=fun h => hk0 (List.mem_append.2 (.inr h))
 have hs2:=hG2.size
 have hs4:=k4.below.size
 have hs6:=hG6.size
 simp only [World.size_drew,World.size_setCell] at hs4
 have f2 : ∀ b ∈ blk v2,(b ∈ blk vL ∧ b < w.heap.size) ∨ (w.heap.size ≤ b ∧ b < w2.heap.size):=fun b hb => by
  have:=hR2.lt b hb
  rcases hB2 b hb with h | h
  ·exact .inl ⟨h,hlt b (iL b h)⟩
  ·exact .inr ⟨h,this⟩
 have f6 : ∀ b ∈ blk v6,(b ∈ blk vW ∧ b < w.heap.size) ∨ w4.heap.size ≤ b:=fun b hb => by
  rcases hB6 b hb with h | h
  ·exact .inl ⟨h,hlt b (iW b h)⟩
  ·exact .inr h
 have f4 : ∀ b ∈ blk v4,w2.heap.size ≤ b ∧ b < w4.heap.size:=fun b hb => ⟨hB4 b hb,hR4.lt b hb⟩
 have fl : ∀ b ∈ blk l,b < w.heap.size:=hl.lt
 have G3 : GrwS (kb :: (blk vL ++ blk vW)) w (w2.setCell ⟨kb,0,none⟩ v2).drew:=((hG2.mono (fun i hi => by simp [hi])).setCell (p:=⟨kb,0,none⟩) (.inl (by simp)) _).trans ((Kept.refl _).drew.toS _)
 have G4:=G3.trans (k4.toS _)
 have G6 : GrwS (kb :: (blk vL ++ blk vW)) w w6:=G4.then hG6 (fun i hi => .inl (by simp [hi]))
 have G7 : GrwS (kb :: (blk vL ++ blk vW)) w (w6.setCell ⟨kb,1,none⟩ v6):=G6.setCell (p:=⟨kb,1,none⟩) (.inl (by simp)) _
 have c2 : w2.heap[kb]? = some (.cells #[vL,vW] 30 (0,0)):=(hG2.block kb hkb kL).trans hK.cells
 have c3 : (w2.setCell ⟨kb,0,none⟩ v2).heap[kb]? = some (.cells #[v2,vW] 30 (0,0)):=heap_setCell_same w2 kb 0 _ _ _ c2
 have c4 : w4.heap[kb]? = some (.cells #[v2,vW] 30 (0,0)):=(k4.below.block kb (by simp; omega)).trans c3
 have c6 : w6.heap[kb]? = some (.cells #[v2,vW] 30 (0,0)):=(hG6.block kb (by omega) kW).trans c4
 have c7 : (w6.setCell ⟨kb,1,none⟩ v6).heap[kb]? = some (.cells #[v2,v6] 30 (0,0)):=heap_setCell_same w6 kb 1 _ _ _ c6
 have kv2 : kb ∉ blk v2:=fun h => by
  rcases f2 kb h with ⟨h,-⟩ | ⟨h,-⟩
  ·exact kL h
  ·omega
 have kv6 : kb ∉ blk v6:=fun h => by
  rcases f6 kb h with ⟨h,-⟩ | h
  ·exact kW h
  ·omega
 have s0 : ∀ (W : World) (o : Nat) (x : Value),GrwS [kb] W (W.setCell ⟨kb,o,none⟩ x):=fun W o x => (GrwS.refl _ _).setCell (p:=⟨kb,o,none⟩) (.inl (by simp)) _
 have R7 : Rw (w6.setCell ⟨kb,1,none⟩ v6) v2 22 (E.map Ent.v ++ [l]):=by
  have a:=hR2.grwS (s0 w2 0 v2) (fun b hb h => kv2 (by simp at h; rwa [h] at hb))
  have b:=(a.kept (Kept.refl _).drew).kept k4
  have c:=b.grwS hG6 (fun x hx h => by
   rcases f2 x hx with ⟨h1,-⟩ | ⟨h1,-⟩
   ·exact dLW x h1 x h rfl
   ·have:=hlt x (iW x h); omega)
  exact c.grwS (s0 w6 1 v6) (fun b hb h => kv2 (by simp at h; rwa [h] at hb))
 have W7 : Rw (w6.setCell ⟨kb,1,none⟩ v6) v6 22 (E.map Ent.u ++ [v4]):=hR6.grwS (s0 w6 1 v6) (fun b hb h => kv6 (by simp at h; rwa [h] at hb))
 have nS : ∀ i ∈ kb :: (blk vL ++ blk vW),w0.heap.size ≤ i:=fun i hi => hK.new i (by
  unfold blks
  rcases List.mem_cons.1 hi with rfl | hi
  ·simp
  ·exact List.mem_cons.2 (.inr (List.mem_append.2 (.inl hi))))
 have hw0 : w0.heap.size ≤ w.heap.size:=hK.kept.below.size
 have hmem : ∀ b ∈ blks kb v2 v6 (E ++ [⟨l,v4,L⟩]),b ∈ blks kb vL vW E ∨ b ∈ blk l ∨ w.heap.size ≤ b:=by
  intro b hb
  rw [blks_snoc] at hb
  rcases List.mem_cons.1 hb with rfl | hb
  ·left; simp [blks]
  rcases List.mem_append.1 hb with hb | hb
  ·rcases List.mem_append.1 hb with hb | hb
   ·rcases f2 b hb with ⟨h,-⟩ | ⟨h,-⟩
    ·exact .inl (iL b h)
    ·exact .inr (.inr h)
   ·rcases f6 b hb with ⟨h,-⟩ | h
    ·exact .inl (iW b h)
    ·exact .inr (.inr (by omega))
  ·rcases List.mem_append.1 hb with hb | hb
   ·exact .inl (iE b hb)
   ·rcases List.mem_append.1 hb with hb | hb
    ·exact .inr (.inl hb)
    ·exact .inr (.inr (by have:=f4 b hb; omega))
 refine ⟨⟨hK.kept.grwS nS G7,c7,by simpa using R7,by simpa using W7,?_,?_,?_⟩,G7,hmem⟩
 ·intro x hx
  rcases List.mem_append.1 hx with hx | hx
  ·obtain ⟨h1,h2,h3⟩:=hK.each x hx
   have hv : ∀ b,(b ∈ blk x.v ∨ b ∈ blk x.u) → b ∉ kb :: (blk vL ++ blk vW):=fun b hb h => by
    have hm : b ∈ (E.flatMap fun x => blk x.v ++ blk x.u):=List.mem_flatMap.2 ⟨x,hx,List.mem_append.2 hb⟩
    rcases List.mem_cons.1 h with rfl | h
    ·exact kE hm
    ·exact dE b h b hm rfl
   exact ⟨h1.grwS G7 (fun b hb => hv b (.inl hb)),h2.grwS G7 (fun b hb => hv b (.inr hb)),h3⟩
  ·obtain rfl : x = ⟨l,v4,L⟩:=by simpa using hx
   refine ⟨hl.grwS G7 (fun b hb h => ?_),?_,hL⟩
   ·refine hd b hb ?_
    unfold blks
    rcases List.mem_cons.1 h with rfl | h
    ·simp
    ·exact List.mem_cons.2 (.inr (List.mem_append.2 (.inl h)))
   ·have a:=hR4.grwS hG6 (fun b hb h => by have:=f4 b hb; have:=hlt b (iW b h); omega)
    exact a.grwS (s0 w6 1 v6) (fun b hb h => by simp at h; have:=f4 b hb; omega)
 ·rw [blks_snoc]
  refine List.nodup_cons.2 ⟨?_,List.nodup_append.2 ⟨List.nodup_append.2 ⟨blk_nodup _,blk_nodup _,?_⟩,List.nodup_append.2 ⟨nE,List.nodup_append.2 ⟨blk_nodup _,blk_nodup _,?_⟩,?_⟩,?_⟩⟩
  ·intro h
   rcases List.mem_append.1 h with h | h
   ·rcases List.mem_append.1 h with h | h
    ·exact kv2 h
    ·exact kv6 h
   ·rcases List.mem_append.1 h with h | h
    ·exact kE h
    ·rcases List.mem_append.1 h with h | h
     ·exact hd kb h (by simp [blks])
     ·have:=f4 kb h; omega
  ·intro a ha b hb e
   subst e
   rcases f2 a ha with ⟨h1,h2⟩ | ⟨h1,h2⟩ <;> rcases f6 a hb with ⟨h3,h4⟩ | h3
   ·exact dLW a h1 a h3 rfl
   ·omega
   ·omega
   ·omega
  ·intro a ha b hb e
   subst e
   have:=fl a ha
   have:=f4 a hb
   omega
  ·intro a ha b hb e
   subst e
   have:=hlt a (iE a ha)
   rcases List.mem_append.1 hb with h | h
   ·exact hd a h (iE a ha)
   ·have:=f4 a h; omega
  ·intro a ha b hb e
   subst e
   rcases List.mem_append.1 ha with ha | ha
   ·rcases f2 a ha with ⟨h1,h2⟩ | ⟨h1,h2⟩
    ·rcases List.mem_append.1 hb with h | h
     ·exact dE a (List.mem_append.2 (.inl h1)) a h rfl
     ·rcases List.mem_append.1 h with h | h
      ·exact hd a h (iL a h1)
      ·have:=f4 a h; omega
    ·rcases List.mem_append.1 hb with h | h
     ·have:=hlt a (iE a h); omega
     ·rcases List.mem_append.1 h with h | h
      ·have:=fl a h; omega
      ·have:=f4 a h; omega
   ·rcases f6 a ha with ⟨h1,h2⟩ | h1
    ·rcases List.mem_append.1 hb with h | h
     ·exact dE a (List.mem_append.2 (.inr h1)) a h rfl
     ·rcases List.mem_append.1 h with h | h
      ·exact hd a h (iW a h1)
      ·have:=f4 a h; omega
    ·rcases List.mem_append.1 hb with h | h
     ·have:=hlt a (iE a h); omega
     ·rcases List.mem_append.1 h with h | h
      ·have:=fl a h; omega
      ·have:=f4 a h; omega
 ·intro b hb
  rcases hmem b hb with h | h | h
  ·exact hK.new b h
  ·exact hn b h
  ·omega
theorem keepAdd (w0 w : World) (kb : Nat) (vL vW : Value) (E : List Ent) (hK : KeepAt w0 w kb vL vW E) (hE : E.length < 300) (l want : Value) (L : List Int) (hL : L.length < 10000000) (hl : Rw w l 3 (ints L)) (hd : ∀ b ∈ blk l,b ∉ blks kb vL vW E) (hn : ∀ b ∈ blk l,w0.heap.size ≤ b) (hw : ∀ u,GrwS (kb :: (blk vL ++ blk vW)) w u → Sl u want L) :
  Calls Tryz.prog 100 #[.pointer (some ⟨kb,0,none⟩),l,want] w fun e w' => e = .returned (.bool true) ∧ ∃ vL' vW' u,KeepAt w0 w' kb vL' vW' (E ++ [⟨l,u,L⟩]) ∧ GrwS (kb :: (blk vL ++ blk vW)) w w' ∧ (∀ b ∈ blks kb vL' vW' (E ++ [⟨l,u,L⟩]),b ∈ blks kb vL vW E ∨ b ∈ blk l ∨ w.heap.size ≤ b) ∧ ∀ b ∈ kb :: (blk vL' ++ blk vW'),b ∈ kb :: (blk vL ++ blk vW) ∨ w.heap.size ≤ b:=by
 obtain ⟨al,cl,rfl⟩:=hl.shape
 obtain ⟨aw,cw,rfl⟩:=(hw w (GrwS.refl _ _)).shape
 have hlt:=hK.lt
 have hkb:=hlt kb (by simp [blks])
 have hap:=hK.apart
 unfold blks at hap
 rw [List.nodup_cons,List.nodup_append,List.nodup_append] at hap
 obtain ⟨hk0,⟨nL,nW,dLW⟩,nE,dE⟩:=hap
 have kL : kb ∉ blk vL:=fun h => hk0 (by simp [h])
 have kW : kb ∉ blk vW:=fun h => hk0 (by simp [h])
 have iW : ∀ b ∈ blk vW,b ∈ blks kb vL vW E:=fun b hb => by simp [blks,hb]
 obtain ⟨v2,w2,hr2,hR2,hG2,hB2⟩:=app_one w vL (E.map Ent.v) hK.rows (.slice al (ints L).length cl) rfl (by rw [List.length_map]; omega)
 have hs2:=hG2.size
 have c2 : w2.heap[kb]? = some (.cells #[vL,vW] 30 (0,0)):=(hG2.block kb hkb kL).trans hK.cells
 have c3 : (w2.setCell ⟨kb,0,none⟩ v2).heap[kb]? = some (.cells #[v2,vW] 30 (0,0)):=heap_setCell_same w2 kb 0 _ _ _ c2
 have G3 : GrwS (kb :: (blk vL ++ blk vW)) w (w2.setCell ⟨kb,0,none⟩ v2).drew:=((hG2.mono (fun i hi => by simp [hi])).setCell (p:=⟨kb,0,none⟩) (.inl (by simp)) _).trans ((Kept.refl _).drew.toS _)
 obtain ⟨v4,w4,hr4,k4,hrow⟩:=app_nil L (by omega) _ _ (hw _ G3)
 have hs4:=k4.below.size
 simp only [World.size_drew,World.size_setCell] at hs4
 have hR4 : Rw w4 v4 3 (ints L) ∧ ∀ b ∈ blk v4,w2.heap.size ≤ b:=by
  rcases hrow with ⟨rfl,rfl⟩ | ⟨g,cap,rfl,hg,hO⟩
  ·exact ⟨.inl ⟨rfl,rfl⟩,fun b hb => by cases hb⟩
  ·refine ⟨.inr ⟨g,cap,by rw [List.length_map],own_v.1 hO⟩,fun b hb => ?_⟩
   obtain rfl : b = g:=by simpa [blk] using hb
   simpa using hg
 obtain ⟨hR4,hB4⟩:=hR4
 have c4 : w4.heap[kb]? = some (.cells #[v2,vW] 30 (0,0)):=(k4.below.block kb (by simp; omega)).trans c3
 have G4:=G3.trans (k4.toS _)
 have kE : ∀ b ∈ blk vW,b ∉ kb :: blk vL:=fun b hb h => by
  rcases List.mem_cons.1 h with rfl | h
  ·exact kW hb
  ·exact dLW b h b hb rfl
 have hW4 : Rw w4 vW 22 (E.map Ent.u):=(((hK.was.grwS hG2 (fun b hb h => dLW b h b hb rfl)).grwS ((GrwS.refl [kb] w2).setCell (p:=⟨kb,0,none⟩) (.inl (by simp)) v2) (fun b hb h => kW (by simp at h; rwa [h] at hb))).kept (Kept.refl _).drew).kept k4
 obtain ⟨a4,d4,rfl⟩:=hR4.shape
 obtain ⟨v6,w6,hr6,hR6,hG6,hB6⟩:=app_one w4 vW (E.map Ent.u) hW4 (.slice a4 (ints L).length d4) rfl (by rw [List.length_map]; omega)
 have hs6:=hG6.size
 have c6 : w6.heap[kb]? = some (.cells #[v2,vW] 30 (0,0)):=(hG6.block kb (by omega) kW).trans c4
 have hRow : ∀ b ∈ kb :: (blk v2 ++ blk v6),b ∈ kb :: (blk vL ++ blk vW) ∨ w.heap.size ≤ b:=by
  intro b hb
  rcases List.mem_cons.1 hb with rfl | hb
  ·left; simp
  ·rcases List.mem_append.1 hb with hb | hb
   ·rcases hB2 b hb with h | h
    ·left; simp [h]
    ·right; exact h
   ·rcases hB6 b hb with h | h
    ·left; simp [h]
    ·right; omega
 obtain ⟨hKF,hGF,hBF⟩:=keep_snoc hK hL hl hd hn hR2 hG2 hB2 k4 hR4 hB4 hR6 hG6 hB6
 have KS : Hid (Calls Tryz.prog 48 #[.slice al L.length cl,.slice aw L.length cw] (w6.setCell ⟨kb,1,none⟩ v6) fun e w' => e = .returned (.bool true) ∧ Kept (w6.setCell ⟨kb,1,none⟩ v6) w'):=by
  have h1:=((hKF.each ⟨.slice al (ints L).length cl,.slice a4 (ints L).length d4,L⟩ (by simp)).1).sl
  rw [List.length_map] at h1
  exact same_true L (by omega) _ _ _ h1 (hw _ hGF)
 have HF : Hid (∀ w8,Kept (w6.setCell ⟨kb,1,none⟩ v6) w8 → ∃ vL' vW' u,KeepAt w0 w8 kb vL' vW' (E ++ [⟨.slice al (ints L).length cl,u,L⟩]) ∧ GrwS (kb :: (blk vL ++ blk vW)) w w8 ∧ (∀ b ∈ blks kb vL' vW' (E ++ [⟨.slice al (ints L).length cl,u,L⟩]),b ∈ blks kb vL vW E ∨ b ∈ blk (.slice al (ints L).length cl) ∨ w.heap.size ≤ b) ∧ ∀ b ∈ kb :: (blk vL' ++ blk vW'),b ∈ kb :: (blk vL ++ blk vW) ∨ w.heap.size ≤ b):=fun w8 k8 => ⟨v2,v6,_,hKF.keptOn k8,hGF.trans (k8.toS _),hBF,hRow⟩
 obtain ⟨a2,n2,d2,rfl⟩ : ∃ a n c,v2 = .slice a n c:=by obtain ⟨a,c,e⟩:=hR2.shape; exact ⟨a,_,c,e⟩
 obtain ⟨a6,n6,d6,rfl⟩ : ∃ a n c,v6 = .slice a n c:=by obtain ⟨a,c,e⟩:=hR6.shape; exact ⟨a,_,c,e⟩
 have cell0 : w.cell? ⟨kb,0,none⟩ = some vL:=by rw [cell_of_row w kb 0 _ _ _ hK.cells]; rfl
 have cell2 : w2.cell? ⟨kb,0,none⟩ = some vL:=by rw [cell_of_row w2 kb 0 _ _ _ c2]; rfl
 have fr2 : w2.frozen? ⟨kb,0,none⟩ = false:=frozen_of_row w2 kb 0 _ _ c2
 have cell3 : (w2.setCell ⟨kb,0,none⟩ (.slice a2 n2 d2)).drew.cell? ⟨kb,1,none⟩ = some vW:=by rw [cell_of_row _ kb 1 _ _ _ (show (w2.setCell ⟨kb,0,none⟩ (.slice a2 n2 d2)).drew.heap[kb]? = _ from c3)]; rfl
 have cell4 : w4.cell? ⟨kb,1,none⟩ = some vW:=by rw [cell_of_row w4 kb 1 _ _ _ c4]; rfl
 have cell5 : (w4.alloc (.cells #[.slice a4 (ints L).length d4] 22)).cell? ⟨kb,1,none⟩ = some vW:=by rw [((Kept.refl w4).alloc _ _).below.cell (p:=⟨kb,1,none⟩) (by show kb < _; omega)]; exact cell4
 have cell6 : w6.cell? ⟨kb,1,none⟩ = some vW:=by rw [cell_of_row w6 kb 1 _ _ _ c6]; rfl
 have fr6 : w6.frozen? ⟨kb,1,none⟩ = false:=frozen_of_row w6 kb 1 _ _ c6
 obtain ⟨aL,cL,rfl⟩:=hK.rows.shape
 obtain ⟨aW,cW,rfl⟩:=hK.was.shape
 simp only [List.length_map] at *
 have H2 : Hid (∀ ty,(Builtin.append_ #[28,28] ty #[.slice aL E.length cL,.slice (some ⟨w.heap.size,0,none⟩) 1 1]).run Tryz.prog (w.alloc (.cells #[.slice al L.length cl] 22)) = .ok (.slice a2 n2 d2) w2):=hr2
 have H4 : Hid (∀ ty,(Builtin.append_ #[22,22] ty #[.slice none 0 0,.slice aw L.length cw]).run Tryz.prog (w2.setCell ⟨kb,0,none⟩ (.slice a2 n2 d2)).drew = .ok (.slice a4 L.length d4) w4):=hr4
 have H6 : Hid (∀ ty,(Builtin.append_ #[28,28] ty #[.slice aW E.length cW,.slice (some ⟨w4.heap.size,0,none⟩) 1 1]).run Tryz.prog (w4.alloc (.cells #[.slice a4 L.length d4] 22)) = .ok (.slice a6 n6 d6) w6):=hr6
 clear hr2 hr4 hr6 hR2 hR4 hR6 hG2 hG6 hB2 hB4 hB6 k4 hrow hKF hGF hBF hK hl hd hn hw hW4 c2 c3 c4 c6 G3 G4 kE kL kW iW hk0 nL nW dLW nE dE hlt hs2 hs4 hs6 hRow
 generalize E.length = nE at *
 generalize L.length = nl at *
 go_enter Tryz.func100,Tryz.ntmps100
 go_wp2_with (first | (at_builtin; refine wpList_append_run rfl _ _ _ rfl _ _ rfl rfl _ _ (H2.out _) ?_))
 refine wp_region_any (by kernel_rfl) ?_
 change wpAny _ _ _ _ _ _ _ (World.drew _)
 refine wpAny_take (i:=0) (v:=?_) rfl (by kernel_rfl) (by kernel_rfl) (by kernel_rfl) (fun _ _ _ h => h) (Or.inl ⟨by rfl,?hya0⟩) ?_
 case hya0 => (intro w; go_simp; try (with_reducible rfl))
 try simp only [Act.put,zA,zB,zC,zD,zE,zF]
 refine wpAny_take (i:=1) (v:=?_) rfl (by kernel_rfl) (by kernel_rfl) (by kernel_rfl) (fun _ _ _ h => h) (Or.inl ⟨by rfl,?hya1⟩) ?_
 case hya1 => (intro w; go_simp; try (with_reducible rfl))
 try simp only [Act.put,zA,zB,zC,zD,zE,zF]
 refine wpAny_take (i:=2) (v:=?_) rfl (by kernel_rfl) (by kernel_rfl) (by kernel_rfl) (fun _ _ _ h => h) (Or.inl ⟨by rfl,?hya2⟩) ?_
 case hya2 => (intro w; go_simp; try (with_reducible rfl))
 try simp only [Act.put,zA,zB,zC,zD,zE,zF]
 refine wpAny_take (i:=3) (v:=?_) rfl (by kernel_rfl) (by kernel_rfl) (by kernel_rfl) (fun _ _ _ h => h) (Or.inl ⟨by rfl,?hya3⟩) ?_
 case hya3 => (intro w; go_simp; try (with_reducible rfl))
 try simp only [Act.put,zA,zB,zC,zD,zE,zF]
 refine wpAny_take (i:=5) (v:=?_) rfl (by kernel_rfl) (by kernel_rfl) (by kernel_rfl) (fun _ _ _ h => h) (Or.inl ⟨by rfl,?hya5⟩) ?_
 case hya5 => (intro w; go_simp; try (with_reducible rfl))
 try simp only [Act.put,zA,zB,zC,zD,zE,zF]
 refine wpAny_ready (rs:=[4,6]) (by kernel_rfl) (by simp) ?_
 refine AllReady.cons rfl (fun K hK9 => ?_) (AllReady.cons rfl (fun K hK9 => ?_) AllReady.nil)
 ·skip
  go_simp
  refine hK9 _ _ ?_
  clear hK9 K
  try simp only [Act.put,zA,zB,zC,zD,zE,zF]
  refine wpAny_ready (rs:=[6]) (by kernel_rfl) (by simp) ?_
  refine AllReady.cons rfl (fun K hK9 => ?_) AllReady.nil
  rw [if_pos (by rfl)]
  refine oper_append_run _ _ _ rfl _ _ rfl rfl _ _ (H4.out _) ?_
  refine hK9 _ _ ?_
  clear hK9 K
  try simp only [Act.put,zA,zB,zC,zD,zE,zF]
  refine wpAny_ready (rs:=[7]) (by kernel_rfl) (by simp) ?_
  refine AllReady.cons rfl (fun K hK9 => ?_) AllReady.nil
  go_simp
  refine hK9 _ _ ?_
  clear hK9 K
  try simp only [Act.put,zA,zB,zC,zD,zE,zF]
  refine wpAny_ready (rs:=[8]) (by kernel_rfl) (by simp) ?_
  refine AllReady.cons rfl (fun K hK9 => ?_) AllReady.nil
  rw [if_pos (by rfl)]
  refine oper_append_run _ _ _ rfl _ _ rfl rfl _ _ (H6.out _) ?_
  refine hK9 _ _ ?_
  clear hK9 K
  try simp only [Act.put,zA,zB,zC,zD,zE,zF]
  refine wpAny_take (i:=9) (v:=?_) rfl (by kernel_rfl) (by kernel_rfl) (by kernel_rfl) (fun _ _ _ h => h) (Or.inl ⟨by rfl,?hyb9⟩) ?_
  case hyb9 => (intro w; go_simp; try (with_reducible rfl))
  try simp only [Act.put,zA,zB,zC,zD,zE,zF]
  refine wpAny_take (i:=10) (v:=?_) rfl (by kernel_rfl) (by kernel_rfl) (by kernel_rfl) (fun _ _ _ h => h) (Or.inl ⟨by rfl,?hyb10⟩) ?_
  case hyb10 => (intro w; go_simp; try (with_reducible rfl))
  try simp only [Act.put,zA,zB,zC,zD,zE,zF]
  refine wpAny_ready (rs:=[11]) (by kernel_rfl) (by simp) ?_
  refine AllReady.cons rfl (fun K hK9 => ?_) AllReady.nil
  go_simp
  refine hK9 _ _ ?_
  clear hK9 K
  try simp only [Act.put,zA,zB,zC,zD,zE,zF]
  refine wpAny_done (by kernel_rfl) ?_ _
  (try simp only [List.getElem_toArray,List.getElem_cons_succ,List.getElem_cons_zero,List.setIfInBounds_toArray,List.set_cons_zero,List.set_cons_succ])
  go_wp2_with (first | (go_at_call 48; refine KS.out.mono ?_; rintro e w8 ⟨rfl,k8⟩))
  go_ret
  exact ⟨rfl,HF.out _ k8⟩
 ·skip
  rw [if_pos (by rfl)]
  refine oper_append_run _ _ _ rfl _ _ rfl rfl _ _ (H4.out _) ?_
  refine hK9 _ _ ?_
  clear hK9 K
  try simp only [Act.put,zA,zB,zC,zD,zE,zF]
  refine wpAny_ready (rs:=[4,7]) (by kernel_rfl) (by simp) ?_
  refine AllReady.cons rfl (fun K hK9 => ?_) (AllReady.cons rfl (fun K hK9 => ?_) AllReady.nil)
  ·skip
   go_simp
   refine hK9 _ _ ?_
   clear hK9 K
   try simp only [Act.put,zA,zB,zC,zD,zE,zF]
   refine wpAny_ready (rs:=[7]) (by kernel_rfl) (by simp) ?_
   refine AllReady.cons rfl (fun K hK9 => ?_) AllReady.nil
   go_simp
   refine hK9 _ _ ?_
   clear hK9 K
   try simp only [Act.put,zA,zB,zC,zD,zE,zF]
   refine wpAny_ready (rs:=[8]) (by kernel_rfl) (by simp) ?_
   refine AllReady.cons rfl (fun K hK9 => ?_) AllReady.nil
   rw [if_pos (by rfl)]
   refine oper_append_run _ _ _ rfl _ _ rfl rfl _ _ (H6.out _) ?_
   refine hK9 _ _ ?_
   clear hK9 K
   try simp only [Act.put,zA,zB,zC,zD,zE,zF]
   refine wpAny_take (i:=9) (v:=?_) rfl (by kernel_rfl) (by kernel_rfl) (by kernel_rfl) (fun _ _ _ h => h) (Or.inl ⟨by rfl,?hyb9⟩) ?_
   case hyb9 => (intro w; go_simp; try (with_reducible rfl))
   try simp only [Act.put,zA,zB,zC,zD,zE,zF]
   refine wpAny_take (i:=10) (v:=?_) rfl (by kernel_rfl) (by kernel_rfl) (by kernel_rfl) (fun _ _ _ h => h) (Or.inl ⟨by rfl,?hyb10⟩) ?_
   case hyb10 => (intro w; go_simp; try (with_reducible rfl))
   try simp only [Act.put,zA,zB,zC,zD,zE,zF]
   refine wpAny_ready (rs:=[11]) (by kernel_rfl) (by simp) ?_
   refine AllReady.cons rfl (fun K hK9 => ?_) AllReady.nil
   go_simp
   refine hK9 _ _ ?_
   clear hK9 K
   try simp only [Act.put,zA,zB,zC,zD,zE,zF]
   refine wpAny_done (by kernel_rfl) ?_ _
   (try simp only [List.getElem_toArray,List.getElem_cons_succ,List.getElem_cons_zero,List.setIfInBounds_toArray,List.set_cons_zero,List.set_cons_succ])
   go_wp2_with (first | (go_at_call 48; refine KS.out.mono ?_; rintro e w8 ⟨rfl,k8⟩))
   go_ret
   exact ⟨rfl,HF.out _ k8⟩
  ·skip
   go_simp
   refine hK9 _ _ ?_
   clear hK9 K
   try simp only [Act.put,zA,zB,zC,zD,zE,zF]
   refine wpAny_ready (rs:=[4]) (by kernel_rfl) (by simp) ?_
   refine AllReady.cons rfl (fun K hK9 => ?_) AllReady.nil
   go_simp
   refine hK9 _ _ ?_
   clear hK9 K
   try simp only [Act.put,zA,zB,zC,zD,zE,zF]
   refine wpAny_ready (rs:=[8]) (by kernel_rfl) (by simp) ?_
   refine AllReady.cons rfl (fun K hK9 => ?_) AllReady.nil
   rw [if_pos (by rfl)]
   refine oper_append_run _ _ _ rfl _ _ rfl rfl _ _ (H6.out _) ?_
   refine hK9 _ _ ?_
   clear hK9 K
   try simp only [Act.put,zA,zB,zC,zD,zE,zF]
   refine wpAny_take (i:=9) (v:=?_) rfl (by kernel_rfl) (by kernel_rfl) (by kernel_rfl) (fun _ _ _ h => h) (Or.inl ⟨by rfl,?hyb9⟩) ?_
   case hyb9 => (intro w; go_simp; try (with_reducible rfl))
   try simp only [Act.put,zA,zB,zC,zD,zE,zF]
   refine wpAny_take (i:=10) (v:=?_) rfl (by kernel_rfl) (by kernel_rfl) (by kernel_rfl) (fun _ _ _ h => h) (Or.inl ⟨by rfl,?hyb10⟩) ?_
   case hyb10 => (intro w; go_simp; try (with_reducible rfl))
   try simp only [Act.put,zA,zB,zC,zD,zE,zF]
   refine wpAny_ready (rs:=[11]) (by kernel_rfl) (by simp) ?_
   refine AllReady.cons rfl (fun K hK9 => ?_) AllReady.nil
   go_simp
   refine hK9 _ _ ?_
   clear hK9 K
   try simp only [Act.put,zA,zB,zC,zD,zE,zF]
   refine wpAny_done (by kernel_rfl) ?_ _
   (try simp only [List.getElem_toArray,List.getElem_cons_succ,List.getElem_cons_zero,List.setIfInBounds_toArray,List.set_cons_zero,List.set_cons_succ])
   go_wp2_with (first | (go_at_call 48; refine KS.out.mono ?_; rintro e w8 ⟨rfl,k8⟩))
   go_ret
   exact ⟨rfl,HF.out _ k8⟩
theorem zeroCells_int (n : Nat) : Builtin.zeroCells (Value.int .i64 0).cells n = (List.replicate n (Value.int .i64 0)).toArray:=by
 apply Array.ext
 ·simp [size_zeroCells,Value.cells]
 ·intro i h1 h2
  simp [Builtin.zeroCells,Value.cells,Nat.mod_one]
theorem int3 : Tryz.prog.underlying 3 = some (.int .i64):=by kernel_rfl
theorem run_zeros_room (w : World) (ty : TypeId) (b sLen sCap n : Nat) (hn : 0 < n) (hs : n < 100000000) (hroom : sLen + n ≤ sCap) (hc : ∀ j,j < n → (w.cell? ⟨b,sLen + j,none⟩).isSome = true) (hf : ∀ j,j < n → w.frozen? ⟨b,sLen + j,none⟩ = false) :
  (Builtin.append_ #[22,3] ty #[.slice (some ⟨b,0,none⟩) sLen sCap,.int .i64 (n : Int)]).run Tryz.prog w = .ok (.slice (some ⟨b,0,none⟩) (sLen + n) sCap) (w.setCells b sLen (List.replicate n (Value.int .i64 0))):=by
 obtain ⟨i,hi,hz,hsz,hb⟩:=info_parts (int_info)
 have hw1 : IntKind.i64.wrap (n : Int) = (n : Int):=by rw [wrap_i64]; omega
 have e0 : ¬ ((n : Int) < 0):=by omega
 have e1 : ¬ (281474976710656 < (n : Int) * 8):=by omega
 have e2 : n ≠ 0:=by omega
 have hst:=run_storeCells_cells (P:=Tryz.prog) b sLen (List.replicate n (Value.int .i64 0)) 0 w (by simpa using hc) (by simpa using hf) (fun u hu => by rw [(List.mem_replicate.1 hu).2]; rfl)
 simp only [Nat.add_zero] at hst
 simp [Builtin.append_,run_underlying li_under,run_underlying int3,sizeOf,typeInfo,hi,hsz,hb,hz,asInt,asIntOf,hw1,e0,e1,e2,zeroValue,hroom,zeroCells_int,Addr.add_lit,hst]
theorem run_zeros_grow (w : World) (ty : TypeId) (base : Option Addr) (sLen sCap n : Nat) (olds : List Value) (hold : (Builtin.firstCells 1 sLen (.slice base sLen sCap)).run Tryz.prog w.drew = .ok olds.toArray w.drew) (hn : 0 < n) (hs : sLen + n < 100000000) (hg : sCap < sLen + n) :
  (Builtin.append_ #[22,3] ty #[.slice base sLen sCap,.int .i64 (n : Int)]).run Tryz.prog w = .ok (.slice (some ⟨w.heap.size,0,none⟩) (sLen + n) (grownCap w (sLen + n) sCap 3)) (w.drew.alloc (.cells ((olds ++ List.replicate n (Value.int .i64 0)).toArray ++ Builtin.zeroCells (Value.int .i64 0).cells (grownCap w (sLen + n) sCap 3 - (sLen + n))) 3)):=by
 obtain ⟨i,hi,hz,hsz,hb⟩:=info_parts (int_info)
 have hw1 : IntKind.i64.wrap (n : Int) = (n : Int):=by rw [wrap_i64]; omega
 have e0 : ¬ ((n : Int) < 0):=by omega
 have e1 : ¬ (281474976710656 < (n : Int) * 8):=by omega
 have e2 : n ≠ 0:=by omega
 have hn' : ¬ (sLen + n ≤ sCap):=by omega
 have h63 : ¬ (9223372036854775807 < ((sLen : Int) + (n : Int))):=by omega
 have hgf : Builtin.nextslicecap (sLen + n) sCap * 8 ≤ 281474976710656:=growslice_fits hg (by omega)
 have h48 : ¬ (281474976710656 < Builtin.nextslicecap (sLen + n) sCap * 8):=by omega
 simp [Builtin.append_,run_underlying li_under,run_underlying int3,sizeOf,typeInfo,hi,hsz,hb,hz,asInt,asIntOf,hw1,e0,e1,e2,zeroValue,hn',h63,h48,zeroCells_int,Question.forced,hold,newRow,grownCap]
 refine congrArg (fun c => World.alloc _ (Obj.cells c 3)) ?_
 apply Array.ext'
 simp only [Array.toList_append,Array.toList_replicate,List.append_assoc,List.replicate_append_replicate]
/-- 'append(s,make([]int,n)...)': in place,or a new row. -/
theorem app_zeros (w : World) (v : Value) (V : List Value) (hv : Rw w v 3 V) (n : Nat) (hn : 0 < n) (hsz : V.length + n < 100000000) :
  ∃ g cap w',(∀ ty,(Builtin.append_ #[22,3] ty #[v,.int .i64 (n : Int)]).run Tryz.prog w = .ok (.slice (some ⟨g,0,none⟩) (V.length + n) cap) w') ∧ OwnV w' g cap 3 (V ++ List.replicate n (Value.int .i64 0)) ∧ ((g = w.heap.size ∧ Kept w w') ∨ (v = .slice (some ⟨g,0,none⟩) V.length cap ∧ Grw g w w')):=by
 rcases hv with ⟨rfl,rfl⟩ | ⟨g,cap,rfl,hO⟩
 ·obtain ⟨C,hC⟩ : ∃ C,grownCap w (0 + n) 0 3 = C:=⟨_,rfl⟩
  have hC1 : 0 + n ≤ C:=by rw [← hC]; exact grownCap_ge _ _ _ _
  have hC2 : C ≤ maxLen:=by rw [← hC]; exact grownCap_le_maxLen _ _ _ _ (by simp [maxLen] at *; omega)
  have hO:=ownV_new w.drew 3 (.int .i64 0) (by simp [Value.cells]) (List.replicate n (Value.int .i64 0)) C (by simp; omega) hC2
  have hK : Kept w (w.drew.alloc (.cells ((List.replicate n (Value.int .i64 0)).toArray ++ Builtin.zeroCells (Value.int .i64 0).cells (C - (List.replicate n (Value.int .i64 0)).length)) 3)):=(Kept.refl w).drew.alloc _ _
  refine ⟨w.heap.size,C,_,fun ty => ?_,by simpa using hO,.inl ⟨rfl,hK⟩⟩
  have:=run_zeros_grow w ty none 0 0 n [] (by simpa using run_firstCells_none (P:=Tryz.prog) w.drew 1 0 0 0) hn (by simpa using hsz) (by omega)
  rw [hC] at this
  rw [this]
  simp
 ·by_cases hr : V.length + n ≤ cap
  ·refine ⟨g,cap,w.setCells g V.length (List.replicate n (Value.int .i64 0)),fun ty => ?_,hO.pushes _ (by simpa using hr),.inr ⟨rfl,(Grw.refl g w).setCells _ _⟩⟩
   exact run_zeros_room w ty g V.length cap n hn (by omega) hr (fun j hj => hO.some _ (by omega)) (fun j hj => hO.free _)
  ·obtain ⟨C,hC⟩ : ∃ C,grownCap w (V.length + n) cap 3 = C:=⟨_,rfl⟩
   have hC1 : V.length + n ≤ C:=by rw [← hC]; exact grownCap_ge _ _ _ _
   have hC2 : C ≤ maxLen:=by rw [← hC]; exact grownCap_le_maxLen _ _ _ _ (by simp [maxLen]; omega)
   have hO2:=ownV_new w.drew 3 (.int .i64 0) (by simp [Value.cells]) (V ++ List.replicate n (Value.int .i64 0)) C (by simp; omega) hC2
   have hK : Kept w (w.drew.alloc (.cells ((V ++ List.replicate n (Value.int .i64 0)).toArray ++ Builtin.zeroCells (Value.int .i64 0).cells (C - (V ++ List.replicate n (Value.int .i64 0)).length)) 3)):=(Kept.refl w).drew.alloc _ _
   refine ⟨w.heap.size,C,_,fun ty => ?_,by simpa using hO2,.inl ⟨rfl,hK⟩⟩
   have:=run_zeros_grow w ty (some ⟨g,0,none⟩) V.length cap n V (run_firstCells_some (P:=Tryz.prog) w.drew 1 V.length ⟨g,0,none⟩ V.length cap V (by omega) (fun j u hu => by rw [Addr.add_lit,Nat.zero_add]; exact hO.cell j u hu)) hn hsz (by omega)
   rw [hC] at this
   rw [this]
   simp
/-- Grown,and a mark at the very end: the list itself stays,and so does all else. -/
theorem grow_step (w : World) (v : Value) (L : List Int) (hv : Rw w v 3 (ints L)) (n : Nat) (hn : 0 < n) (hsz : L.length + n < 100000000) :
  ∃ g cap w',(∀ ty,(Builtin.append_ #[22,3] ty #[v,.int .i64 (n : Int)]).run Tryz.prog w = .ok (.slice (some ⟨g,0,none⟩) (L.length + n) cap) w') ∧ w'.cell? ⟨g,L.length + n - 1,none⟩ = some (.int .i64 0) ∧ w'.frozen? ⟨g,L.length + n - 1,none⟩ = false ∧
   ∀ x,GrwS (blk v) w (w'.setCell ⟨g,L.length + n - 1,none⟩ x) ∧ Rw (w'.setCell ⟨g,L.length + n - 1,none⟩ x) v 3 (ints L):=by
 obtain ⟨g,cap,w',hr,hO,hk⟩:=app_zeros w v (ints L) hv n hn (by simpa using hsz)
 rw [List.length_map] at hr hk
 refine ⟨g,cap,w',hr,?_,hO.free _,fun x => ?_⟩
 ·refine hO.cell _ _ ?_
  rw [List.getElem?_append_right (by simp; omega),List.getElem?_replicate]
  simp
  omega
 ·rcases hk with ⟨rfl,k⟩ | ⟨rfl,k⟩
  ·have hs:=hO.lt
   have hG : GrwS (blk v) w (w'.setCell ⟨w.heap.size,L.length + n - 1,none⟩ x):=(k.toS _).setCell (p:=⟨w.heap.size,L.length + n - 1,none⟩) (.inr (Nat.le_refl _)) x
   refine ⟨hG,(hv.kept k).grwS ((GrwS.refl [w.heap.size] w').setCell (p:=⟨w.heap.size,L.length + n - 1,none⟩) (.inl (by simp)) x) (fun b hb h => ?_)⟩
   have:=hv.lt b hb
   simp at h
   omega
  ·refine ⟨by simpa [blk] using (k.setCell (L.length + n - 1) x).toS,.inr ⟨g,cap,by rw [List.length_map],?_⟩⟩
   have h1:=hO.set (L.length + n - 1) x
   obtain ⟨cur,c1,c2,c3,c4,c5⟩:=h1
   refine ⟨cur,c1,by simp at c2 ⊢; omega,c3,c4,?_⟩
   have:=congrArg (List.take L.length) c5
   rw [List.take_take,List.length_set,List.length_append,List.length_map,Nat.min_eq_left (by omega),List.take_set,List.take_left' (by simp),List.set_eq_of_length_le (by simp; omega)] at this
   rw [List.length_map]
   exact this
/-- The lists that were answered,whatever has been written into them since. -/
structure KeepM (w0 : World) (kb : Nat) (vL : Value) (E : List Ent) (w : World) (M : Nat → List Int) : Prop where
 kept : Kept w0 w
 cells : ∃ x,w.heap[kb]? = some (.cells #[vL,x] 30 (0,0))
 rows : Rw w vL 22 (E.map Ent.v)
 each : ∀ i (h : i < E.length),Rw w (E[i]).v 3 (ints (M i))
theorem ent_apart {kb : Nat} {vL vW : Value} {E : List Ent} (h : (blks kb vL vW E).Nodup) (i : Nat) (hi : i < E.length) : (kb ∉ blk (E[i]).v) ∧ (∀ b ∈ blk vL,b ∉ blk (E[i]).v) ∧ ∀ j (hj : j < E.length),i ≠ j → ∀ b ∈ blk (E[j]).v,b ∉ blk (E[i]).v:=by
 unfold blks at h
 rw [List.nodup_cons,List.nodup_append] at h
 obtain ⟨hk,-,hE,hd⟩:=h
 have hm : ∀ b ∈ blk (E[i]).v,b ∈ (E.flatMap fun x => blk x.v ++ blk x.u):=fun b hb => List.mem_flatMap.2 ⟨E[i],List.getElem_mem hi,List.mem_append.2 (.inl hb)⟩
 refine ⟨fun hb => hk (List.mem_append.2 (.inr (hm _ hb))),fun b hb h2 => hd b (List.mem_append.2 (.inl hb)) b (hm b h2) rfl,?_⟩
 intro j hj hne b hb h2
 unfold List.Nodup at hE
 rw [List.pairwise_flatMap] at hE
 have hp:=List.pairwise_iff_getElem.1 hE.2
 rcases Nat.lt_or_gt_of_ne hne with hlt | hlt
 ·exact hp i j hi hj hlt b (List.mem_append.2 (.inl h2)) b (List.mem_append.2 (.inl hb)) rfl
 ·exact hp j i hj hi hlt b (List.mem_append.2 (.inl hb)) b (List.mem_append.2 (.inl h2)) rfl
def updM (M : Nat → List Int) (i : Nat) (L : List Int) : Nat → List Int:=fun j => if j = i then L else M j
theorem updM_same (M : Nat → List Int) (i : Nat) : updM M i (M i) = M:=by
 funext j
 unfold updM
 split
 ·rename_i h; rw [h]
 ·rfl
theorem KeepM.turn {w0 w w' : World} {kb : Nat} {vL vW : Value} {E : List Ent} {M : Nat → List Int} (h : KeepM w0 kb vL E w M) (hap : (blks kb vL vW E).Nodup) (hnew : ∀ b ∈ blks kb vL vW E,w0.heap.size ≤ b) (i : Nat) (hi : i < E.length) (k : GrwS (blk (E[i]).v) w w') (L : List Int) (h' : Rw w' (E[i]).v 3 (ints L)) : KeepM w0 kb vL E w' (updM M i L):=by
 obtain ⟨a1,a2,a3⟩:=ent_apart hap i hi
 have hnv : ∀ b ∈ blk (E[i]).v,w0.heap.size ≤ b:=fun b hb => hnew b (by
  unfold blks
  exact List.mem_cons.2 (.inr (List.mem_append.2 (.inr (List.mem_flatMap.2 ⟨E[i],List.getElem_mem hi,List.mem_append.2 (.inl hb)⟩)))))
 obtain ⟨x,hx⟩:=h.cells
 refine ⟨h.kept.grwS hnv k,⟨x,(k.block kb (lt_of_block hx) a1).trans hx⟩,h.rows.grwS k a2,fun j hj => ?_⟩
 unfold updM
 split
 ·rename_i e; subst e; exact h'
 ·rename_i e; exact (h.each j hj).grwS k (a3 j hj (fun e' => e e'.symm))
theorem KeepM.keptOn {w0 w w' : World} {kb : Nat} {vL : Value} {E : List Ent} {M : Nat → List Int} (h : KeepM w0 kb vL E w M) (k : Kept w w') : KeepM w0 kb vL E w' M:=by
 obtain ⟨x,hx⟩:=h.cells
 exact ⟨h.kept.trans k,⟨x,(k.below.block kb (lt_of_block hx)).trans hx⟩,h.rows.kept k,fun j hj => (h.each j hj).kept k⟩
def Mk (n : Nat → Nat) (M : Nat → List Int) (k j : Nat) : Prop:=(∀ i,i < k → ∀ t,t < n i → (M i).getD t 0 = -2 - (i : Int)) ∧ ∀ t,t < j → (M k).getD t 0 = -2 - (k : Int)
theorem Mk.start (n : Nat → Nat) (M : Nat → List Int) : Mk n M 0 0:=⟨fun i h => by omega,fun t h => by omega⟩
theorem Mk.step {n : Nat → Nat} {M : Nat → List Int} {k j : Nat} (h : Mk n M k j) (hj : j < (M k).length) : Mk n (updM M k ((M k).set j (-2 - (k : Int)))) k (j + 1):=by
 refine ⟨fun i hi t ht => ?_,fun t ht => ?_⟩
 ·unfold updM
  rw [if_neg (by omega)]
  exact h.1 i hi t ht
 ·unfold updM
  rw [if_pos rfl,List.getD_eq_getElem?_getD,List.getElem?_set]
  split
  ·rfl
  ·rw [← List.getD_eq_getElem?_getD]
   exact h.2 t (by omega)
theorem Mk.next {n : Nat → Nat} {M : Nat → List Int} {k : Nat} (h : Mk n M k (n k)) : Mk n M (k + 1) 0:=by
 refine ⟨fun i hi t ht => ?_,fun t ht => by omega⟩
 by_cases e : i = k
 ·subst e; exact h.2 t ht
 ·exact h.1 i (by omega) t ht
theorem rw_len {w : World} {v : Value} {e : TypeId} {V W : List Value} {w' : World} (h : Rw w v e V) (h' : Rw w' v e W) : V.length = W.length:=by
 obtain ⟨a,c,e1⟩:=h.shape
 obtain ⟨b,d,e2⟩:=h'.shape
 rw [e1] at e2
 injection e2
/-- All that the walk asks of the lists. -/
theorem keepM_facts {w0 w : World} {kb : Nat} {aL : Option Addr} {cL : Nat} {vW : Value} {E : List Ent} (hK : KeepAt w0 w kb (.slice aL E.length cL) vW E) :
  (∀ u M,KeepM w0 kb (.slice aL E.length cL) E u M → u.cell? ⟨kb,0,none⟩ = some (.slice aL E.length cL)) ∧
  ∃ n : Nat → Nat,(∀ k,k < E.length → n k < 10000000 ∧ ∃ gL al cl,aL = some ⟨gL,0,none⟩ ∧ (∀ u M,KeepM w0 kb (.slice aL E.length cL) E u M → u.cell? ⟨gL,k,none⟩ = some (.slice al (n k) cl)) ∧
   (∀ j,j < n k → ∃ gi,al = some ⟨gi,0,none⟩ ∧ ∀ u M,KeepM w0 kb (.slice aL E.length cL) E u M → (M k).length = n k ∧ u.cell? ⟨gi,j,none⟩ = some (.int .i64 ((M k).getD j 0)) ∧ u.frozen? ⟨gi,j,none⟩ = false ∧ ∀ x,KeepM w0 kb (.slice aL E.length cL) E (u.setCell ⟨gi,j,none⟩ (.int .i64 x)) (updM M k ((M k).set j x))) ∧
   (∀ t : Nat,0 < t → t < 1000 → ∀ u M,KeepM w0 kb (.slice aL E.length cL) E u M → ∃ g cap w',(∀ ty,(Builtin.append_ #[22,3] ty #[.slice al (n k) cl,.int .i64 (t : Int)]).run Tryz.prog u = .ok (.slice (some ⟨g,0,none⟩) (n k + t) cap) w') ∧ w'.cell? ⟨g,n k + t - 1,none⟩ = some (.int .i64 0) ∧ w'.frozen? ⟨g,n k + t - 1,none⟩ = false ∧ KeepM w0 kb (.slice aL E.length cL) E (w'.setCell ⟨g,n k + t - 1,none⟩ (.int .i64 7)) M)):=by
 have hap:=hK.apart
 have hnew:=hK.new
 refine ⟨fun u M h => ?_,fun k => (E.getD k ⟨.bool false,.bool false,[]⟩).L.length,fun k hk => ?_⟩
 ·obtain ⟨x,hx⟩:=h.cells
  rw [cell_of_row u kb 0 _ _ _ hx]
  rfl
 ·have eD : E.getD k ⟨.bool false,.bool false,[]⟩ = E[k]:=by rw [List.getD_eq_getElem?_getD,List.getElem?_eq_getElem hk]; rfl
  dsimp only
  rw [eD]
  obtain ⟨hv,-,hlen⟩:=hK.each E[k] (List.getElem_mem hk)
  obtain ⟨al,cl,ev⟩:=hv.shape
  rw [List.length_map] at ev
  refine ⟨hlen,?_⟩
  rcases hK.rows with ⟨e,-⟩ | ⟨gL,cap,e,-⟩
  ·rw [List.map_eq_nil_iff] at e
   subst e
   simp at hk
  injection e with e1 e2 e3
  subst e1
  have hlm : ∀ u M,KeepM w0 kb (.slice (some ⟨gL,0,none⟩) E.length cL) E u M → (M k).length = (E[k]).L.length:=fun u M h => by
   have:=rw_len (h.each k hk) hv
   simpa using this
  refine ⟨gL,al,cl,rfl,fun u M h => ?_,fun j hj => ?_,fun t ht1 ht2 u M h => ?_⟩
  ·rcases h.rows with ⟨e,-⟩ | ⟨g,c,e,hO⟩
   ·rw [List.map_eq_nil_iff] at e
    subst e
    simp at hk
   ·injection e with e1 e2 e3
    injection e1 with e1
    injection e1 with e1
    subst e1
    refine hO.cell k _ ?_
    rw [List.getElem?_map,List.getElem?_eq_getElem hk]
    simp [ev]
  ·rcases hv with ⟨e,-⟩ | ⟨gi,ci,e,-⟩
   ·rw [List.map_eq_nil_iff] at e
    rw [e] at hj
    simp at hj
   ·rw [ev] at e
    injection e with e1 e2 e3
    refine ⟨gi,e1,fun u M h => ?_⟩
    have hl:=hlm u M h
    subst e1
    rcases h.each k hk with ⟨e,-⟩ | ⟨g,c,e,hO⟩
    ·rw [List.map_eq_nil_iff] at e
     rw [e] at hl
     simp at hl
     omega
    ·rw [ev] at e
     injection e with e1 e2 e3
     injection e1 with e1
     injection e1 with e1
     subst e1
     have hO':=own_v.2 hO
     refine ⟨hl,hO'.cell j (by omega),hO'.free j,fun x => ?_⟩
     refine h.turn hap hnew k hk ?_ _ ?_
     ·rw [ev]
      exact (GrwS.refl _ _).setCell (p:=⟨gi,j,none⟩) (.inl (by simp [blk])) _
     ·exact .inr ⟨gi,c,by rw [ev]; simp [hl,e3],own_v.1 (hO'.set j x)⟩
  ·have hl:=hlm u M h
   have hE:=h.each k hk
   rw [ev] at hE
   obtain ⟨g,cap,w',h1,h2,h3,h4⟩:=grow_step u _ (M k) hE t ht1 (by omega)
   rw [hl] at h1 h2 h3 h4
   refine ⟨g,cap,w',h1,h2,h3,?_⟩
   obtain ⟨h5,h6⟩:=h4 (.int .i64 7)
   have:=h.turn hap hnew k hk (by rw [ev]; exact h5) (M k) (by rw [ev]; exact h6)
   rwa [updM_same] at this
end Go.Proofs.YtoflafgbbjinpaaGreatDoor
