/-  -/
import Derived.Test.YtaglkncdedeipaaGreatDoorWs12
namespace Go.Proofs.YtaglkncdedeipaaGreatDoor
open Go.ChangeShapes Go.WideShapes Go.ChangeAt Go.RowKit
set_option linter.unusedVariables false
set_option linter.unusedSimpArgs false
set_option maxHeartbeats 16000000
set_option maxRecDepth 100000
structure GrwS (S:List Nat) (w w':World):Prop where
 os:w'.os=w.os
 tape:w'.tape=w.tape
 output:w'.output=w.output
 size:w.heap.size≤w'.heap.size
 block:∀i,i<w.heap.size→i∉S→w'.heap[i]?=w.heap[i]?
 frozen:∀a,w'.frozen? a=w.frozen? a
theorem GrwS.refl (S:List Nat)(w:World):GrwS S w w:=⟨rfl,rfl,rfl,qhy _,fun _ _ _=>rfl,fun _=>rfl⟩
theorem GrwS.trans {S:List Nat}{a b c:World}(h:GrwS S a b)(k:GrwS S b c):GrwS S a c:=
 ⟨k.os.trans h.os,k.tape.trans h.tape,k.output.trans h.output,qh4 h.size k.size,fun i hi hn=>(k.block i (qhu hi h.size) hn).trans (h.block i hi hn),fun x=>(k.frozen x).trans (h.frozen x)⟩
theorem GrwS.mono {S S':List Nat}{a b:World}(h:GrwS S a b)(hs:∀i∈S,i∈S'):GrwS S' a b:=
 ⟨h.os,h.tape,h.output,h.size,fun i hi hn=>h.block i hi (fun hm=>hn (hs i hm)),h.frozen⟩
theorem GrwS.then {S S':List Nat}{a b c:World}(h:GrwS S a b)(k:GrwS S' b c)(hs:∀i∈S',i∈S∨a.heap.size≤i):GrwS S a c:=
 ⟨k.os.trans h.os,k.tape.trans h.tape,k.output.trans h.output,qh4 h.size k.size,fun i hi hn=>(k.block i (qhu hi h.size) (fun hm=>by rcases hs i hm with h1|h1;exact hn h1;omega)).trans (h.block i hi hn),fun x=>(k.frozen x).trans (h.frozen x)⟩
theorem Kept.toS {a b:World}(S:List Nat)(h:Kept a b):GrwS S a b:=⟨h.below.os,h.below.tape,h.below.output,h.below.size,fun i hi _=>h.below.block i hi,h.frozen⟩
theorem Grw.toS {g:Nat}{a b:World}(h:Grw g a b):GrwS [g] a b:=⟨h.grown.os,h.grown.tape,h.grown.output,h.grown.size,fun i hi hn=>h.grown.block i hi (by simpa using hn),h.frozen⟩
theorem Kept.grwS {S:List Nat}{a b c:World}(h:Kept a b)(hS:∀i∈S,a.heap.size≤i)(k:GrwS S b c):Kept a c:=
 ⟨⟨k.os.trans h.below.os,k.tape.trans h.below.tape,k.output.trans h.below.output,qh4 h.below.size k.size,fun i hi=>(k.block i (qhu hi h.below.size) (fun hm=>by have:=hS i hm;omega)).trans (h.below.block i hi)⟩,fun x=>(k.frozen x).trans (h.frozen x)⟩
theorem GrwS.setCell {S:List Nat}{a b:World}(h:GrwS S a b){p:Addr}(hp:p.block∈S∨a.heap.size≤p.block)(u:Value):GrwS S a (b.setCell p u):=
 ⟨h.os,h.tape,h.output,by simpa using h.size,fun i hi hn=>(Below.heap_setCell b p u i (fun e=>by subst e;rcases hp with h1|h1;exact hn h1;omega)).trans (h.block i hi hn),fun x=>(World.frozen?_setCell _ _ _ _).trans (h.frozen x)⟩
def blk (v:Value):List Nat:=match v with
 | .slice (some a) _ _=>[a.block]
 |_=>[]
theorem OwnV.grwS {S:List Nat}{w w':World}{g cap:Nat}{e:TypeId}{V:List Value}(h:OwnV w g cap e V)(k:GrwS S w w')(hne:g∉S):OwnV w' g cap e V:=by
 have hl:=h.lt
 obtain⟨cur,hg,r⟩:=h
 exact⟨cur,(k.block g hl hne).trans hg,r⟩
theorem Rw.lt {w:World}{v:Value}{e:TypeId}{V:List Value}(h:Rw w v e V):∀b∈blk v,b<w.heap.size:=by
 rcases h with ⟨-,rfl⟩|⟨g,cap,rfl,ho⟩
 ·intro b hb;cases hb
 ·intro b hb
  obtain rfl:b=g:=by simpa [blk] using hb
  exact ho.lt
theorem Rw.grwS {S:List Nat}{w w':World}{v:Value}{e:TypeId}{V:List Value}(h:Rw w v e V)(k:GrwS S w w')(hn:∀b∈blk v,b∉S):Rw w' v e V:=by
 rcases h with h|⟨g,cap,rfl,ho⟩
 ·exact .inl h
 ·exact .inr ⟨g,cap,rfl,ho.grwS k (hn g (by simp[blk]))⟩
theorem Rw.kept {w w':World}{v:Value}{e:TypeId}{V:List Value}(h:Rw w v e V)(k:Kept w w'):Rw w' v e V:=h.grwS (k.toS []) (fun _ _ h=>by cases h)
theorem Rw.sl {w:World}{v:Value}{L:List Int}(h:Rw w v 3 (L.map (Value.int .i64))):Sl w v L:=by
 rcases h with ⟨e,rfl⟩|⟨g,cap,rfl,ho⟩
 ·obtain rfl:L=[]:=by simpa using e
  exact⟨none,0,rfl,qhy _,by simp[maxLen],fun h=>absurd rfl h⟩
 ·have:=(own_v.2 ho).sl
  rw[List.length_map]
  exact this
theorem Rw.shape {w:World}{v:Value}{e:TypeId}{V:List Value}(h:Rw w v e V):∃ao c,v=.slice ao V.length c:=by
 rcases h with ⟨rfl,rfl⟩|⟨g,cap,rfl,ho⟩
 ·exact⟨_,_,rfl⟩
 ·exact⟨_,_,rfl⟩
abbrev qhs (L:List Int):List Value:=L.map (Value.int .i64)
theorem Sl.shape {w:World}{v:Value}{L:List Int}(h:Sl w v L):∃ao c,v=.slice ao L.length c:=by
 obtain⟨ao,c,e,-⟩:=h
 exact⟨ao,c,e⟩
def qfz (M:Nat→List Int)(i:Nat)(L:List Int):Nat→List Int:=fun j=>if j=i then L else M j
def Mk (n:Nat→Nat)(M:Nat→List Int)(k j:Nat):Prop:=(∀i,i<k→∀t,t<n i→(M i).getD t 0=-2-(i:Int))∧∀t,t<j→(M k).getD t 0=-2-(k:Int)
theorem Mk.start (n:Nat→Nat)(M:Nat→List Int):Mk n M 0 0:=⟨fun i h=>by omega,fun t h=>by omega⟩
theorem Mk.step {n:Nat→Nat}{M:Nat→List Int}{k j:Nat}(h:Mk n M k j)(hj:j<(M k).length):Mk n (qfz M k ((M k).set j (-2-(k:Int)))) k (j+1):=by
 refine⟨fun i hi t ht=>?_,fun t ht=>?_⟩
 ·unfold qfz
  rw[if_neg (by omega)]
  exact h.1 i hi t ht
 ·unfold qfz
  rw[if_pos rfl,qhx,List.getElem?_set]
  split
  ·rfl
  ·rw[←qhx]
   exact h.2 t (by omega)
theorem Mk.next {n:Nat→Nat}{M:Nat→List Int}{k:Nat}(h:Mk n M k (n k)):Mk n M (k+1) 0:=by
 refine⟨fun i hi t ht=>?_,fun t ht=>by omega⟩
 by_cases e:i=k
 ·subst e;exact h.2 t ht
 ·exact h.1 i (by omega) t ht
theorem NumAt.shape {w:World}{v:Value}{x:Nm}(h:NumAt w v x):∃ao c,v=.agg #[.bool x.neg,.slice ao x.mag.length c,.int .i64 x.exp]:=by
 obtain⟨s,rfl,ao,c,rfl,-⟩:=h
 exact⟨ao,c,rfl⟩
theorem XR (ng:Bool)(ao:Option Addr)(n c:Nat)(ex:Int)(w:World):
  Calls Tryz.prog 96 #[.agg #[.bool ng,.slice ao n c,.int .i64 ex]] w fun e w'=>e=.returned (.agg #[.bool (if n=0 then ng else !ng),.slice ao n c,.int .i64 ex])∧Kept w w':=by
 have hK:Kept w ((w.alloc (.cells #[.bool ng,.slice ao n c,.int .i64 ex] 31)).alloc zn):=((qia w).alloc _ _).alloc _ _
 rcases n with _|n
 all_goals
  go_enter Tryz.func96,Tryz.ntmps96
  go_wp2
 ·exact qh9 (v:=.agg #[.bool ng,.slice ao 0 c,.int .i64 ex]) (by simp[results,Tryz.results96,go_sem]) rfl ⟨rfl,((qia w).alloc _ _).alloc _ _⟩
 ·exact qh9 (v:=.agg #[.bool (!ng),.slice ao (n+1) c,.int .i64 ex]) (by simp[results,Tryz.results96,go_sem]) rfl ⟨rfl,((qia w).alloc _ _).alloc _ _⟩
theorem qao (ng:Bool)(ao:Option Addr)(n c:Nat)(ex:Int)(w:World):
  Calls Tryz.prog 95 #[.agg #[.bool ng,.slice ao n c,.int .i64 ex]] w fun e w'=>e=.returned (.int .i64 (if n=0 then 0 else if ng then -1 else 1))∧Kept w w':=by
 rcases n with _|n
 ·go_enter Tryz.func95,Tryz.ntmps95
  go_wp2
  go_ret
  exact⟨rfl,(qia _).alloc _ _⟩
 ·cases ng
  all_goals
   go_enter Tryz.func95,Tryz.ntmps95
   go_wp2
   go_ret
   exact⟨rfl,(qia _).alloc _ _⟩
end Go.Proofs.YtaglkncdedeipaaGreatDoor
