/-  -/
import Derived.Test.YtaglkncdedeipaaGreatDoorWs23
import Derived.Test.YtaglkncdedeipaaGreatDoorWs30
namespace Go.Proofs.YtaglkncdedeipaaGreatDoor
open Go.ChangeShapes Go.WideShapes Go.ChangeAt Go.RowKit
set_option linter.unusedVariables false
set_option linter.unusedSimpArgs false
set_option maxHeartbeats 16000000
set_option maxRecDepth 100000
def OwnS (w:World)(g cap sz:Nat)(e:TypeId)(V:List Value):Prop:=∃cur,w.heap[g]?=some (.cells cur e (0,0))∧V.length≤cap*sz∧cap≤maxLen∧cur.size=cap*sz∧cur.toList.take V.length=V
theorem OwnS.lt {w:World}{g cap sz:Nat}{e:TypeId}{V:List Value}(h:OwnS w g cap sz e V):g<w.heap.size:=by
 obtain⟨cur,hg,-⟩:=h
 exact lt_of_block hg
theorem OwnS.on {w w':World}{g cap sz:Nat}{e:TypeId}{V:List Value}(h:OwnS w g cap sz e V)(k:w'.heap[g]?=w.heap[g]?):OwnS w' g cap sz e V:=by
 obtain⟨cur,hg,r⟩:=h
 exact⟨cur,k.trans hg,r⟩
theorem OwnS.kept {w w':World}{g cap sz:Nat}{e:TypeId}{V:List Value}(h:OwnS w g cap sz e V)(k:Kept w w'):OwnS w' g cap sz e V:=h.on (k.below.block g h.lt)
theorem OwnS.cell {w:World}{g cap sz:Nat}{e:TypeId}{V:List Value}(h:OwnS w g cap sz e V)(i:Nat)(x:Value)(hi:V[i]?=some x):w.cell? ⟨g,i,none⟩=some x:=by
 obtain⟨cur,hg,h1,h2,h3,h4⟩:=h
 rw[cell_of_row w g i cur e (0,0) hg]
 rw[←h4,List.getElem?_take]at hi
 split at hi
 ·simpa using hi
 ·cases hi
theorem OwnS.some {w:World}{g cap sz:Nat}{e:TypeId}{V:List Value}(h:OwnS w g cap sz e V)(i:Nat)(hi:i<cap*sz):(w.cell? ⟨g,i,none⟩).isSome=true:=by
 obtain⟨cur,hg,h1,h2,h3,h4⟩:=h
 rw[cell_of_row w g i cur e (0,0) hg]
 simp
 omega
theorem OwnS.free {w:World}{g cap sz:Nat}{e:TypeId}{V:List Value}(h:OwnS w g cap sz e V)(i:Nat):w.frozen? ⟨g,i,none⟩=false:=by
 obtain⟨cur,hg,-⟩:=h
 exact frozen_of_row w g i cur e hg
theorem OwnS.push {w:World}{g cap sz:Nat}{e:TypeId}{V:List Value}(h:OwnS w g cap sz e V)(hi:V.length<cap*sz)(x:Value):OwnS (w.setCell ⟨g,V.length,none⟩ x) g cap sz e (V++[x]):=by
 obtain⟨cur,hg,h1,h2,h3,h4⟩:=h
 refine⟨cur.setIfInBounds V.length x,heap_setCell_same w g V.length cur e _ hg,by simp;omega,h2,by simpa using h3,?_⟩
 rw[Array.toList_setIfInBounds,List.length_append,List.length_singleton,List.take_set,List.take_add_one,h4]
 have:(cur.toList)[V.length]?=Option.some (cur.toList[V.length]'(by simp;omega)):=List.getElem?_eq_getElem _
 rw[this,List.set_append_right _ _ (by omega),Nat.sub_self]
 rfl
theorem OwnS.pushes {g cap sz:Nat}{e:TypeId}(news:List Value):∀{w:World} {V:List Value} (h:OwnS w g cap sz e V) (hi:V.length+news.length≤cap*sz),OwnS (w.setCells g V.length news) g cap sz e (V++news):=by
 induction news with
 |nil=>intro w V h hi;simpa [World.setCells] using h
 |cons x r ih=>
  intro w V h hi
  simp only[List.length_cons]at hi
  have h2:=h.push (by omega) x
  have:=ih h2 (by simp;omega)
  rw[List.length_append,List.length_singleton]at this
  rw[World.setCells]
  simpa using this
theorem y9 (w:World)(e:TypeId)(z:Value)(sz:Nat)(hz:z.cells.size=sz)(V:List Value)(k cap:Nat)(hk:V.length=k*sz)(h1:k≤cap)(h2:cap≤maxLen):OwnS (w.alloc (.cells (V.toArray++Builtin.zeroCells z.cells (cap-k)) e)) w.heap.size cap sz e V:=by
 have hc:cap*sz=k*sz+(cap-k)*sz:=by rw[←Nat.add_mul];congr 1;omega
 refine⟨_,heap_alloc_new w _,?_,h2,?_,?_⟩
 ·rw[hk,hc];omega
 ·simp[size_zeroCells,hz];rw[hk,hc]
 ·simp
def spl (la lb:Nat→Int):Nat→List Value
 |0=>[]
 |k+1=>spl la lb k++[.int .i64 (la k),.int .i64 (lb k)]
theorem vG (la lb:Nat→Int)(m:Nat):(spl la lb m).length=m*2:=by
 induction m with
 |zero=>rfl
 |succ m ih=>simp only[spl,List.length_append,ih,List.length_cons,List.length_nil];omega
theorem VX (la lb:Nat→Int)(m i:Nat)(hi:i<m):(spl la lb m)[i*2]?=some (.int .i64 (la i))∧(spl la lb m)[i*2+1]?=some (.int .i64 (lb i)):=by
 induction m with
 |zero=>omega
 | succ m ih=>
  have hl:=vG la lb m
  by_cases h:i=m
  ·subst h
   simp only[spl]
   rw[List.getElem?_append_right (by omega),List.getElem?_append_right (by omega),hl,Nat.sub_self,show i*2+1-i*2=1 by omega]
   exact⟨rfl,rfl⟩
  ·simp only[spl]
   rw[List.getElem?_append_left (by omega),List.getElem?_append_left (by omega)]
   exact ih (by omega)
theorem qec (la lb:Nat→Int)(m:Nat):∀u∈spl la lb m,u.oneCell'=true:=by
 induction m with
 |zero=>intro u hu;cases hu
 |succ m ih=>
  intro u hu
  simp only[spl,List.mem_append,List.mem_cons,List.not_mem_nil,or_false]at hu
  rcases hu with hu|rfl|rfl
  ·exact ih u hu
  ·rfl
  ·rfl
theorem qed (la lb:Nat→Int)(m:Nat)(b off:Nat)(w:World)(h:∀i,i<m→w.cell? ⟨b,off+i*2,none⟩=some (.int .i64 (la i))∧w.cell? ⟨b,off+i*2+1,none⟩=some (.int .i64 (lb i))):∀j u,(spl la lb m)[j]?=some u→w.cell? ((⟨b,off,none⟩:Addr).add j)=some u:=by
 intro j u hj
 have hl:=vG la lb m
 have hlt:j<m*2:=by
  rw[←hl]
  exact(List.getElem?_eq_some_iff.1 hj).1
 obtain⟨g1,g2⟩:=VX la lb m (j/2) (by omega)
 obtain⟨h1,h2⟩:=h (j/2) (by omega)
 rw[Addr.add_lit]
 by_cases hp:j%2=0
 ·have e:j=j/2*2:=by omega
  rw[←e]at g1 h1
  rw[hj]at g1
  cases g1
  exact h1
 ·have e:j=j/2*2+1:=by omega
  rw[←e]at g2
  rw[hj]at g2
  cases g2
  rw[Nat.add_assoc,←e]at h2
  exact h2
theorem JN:Tryz.prog.underlying 26=some (.slice 23):=by kernel_rfl
theorem VY:(Tryz.prog.info? 23).map (fun i=>(i.zero,i.size,i.bytes))=some (some (.agg #[.int .i64 0,.int .i64 0]),2,16):=by kernel_rfl
theorem JO (wr:World)(lv:Value)(k:Nat)(V:List Value)(hM:(k=0∧V=[]∧lv=.slice none 0 0)∨∃g cap,lv=.slice (some ⟨g,0,none⟩) k cap∧V.length=k*2∧k≤cap∧OwnS wr g cap 2 23 V)(news:List Value)(hn:news.length=2)(h1:∀u∈news,u.oneCell'=true)(hlen:k<10000000):
  ∃g cap w',(∀ty,(Builtin.append_ #[26,26] ty #[lv,.slice (some ⟨wr.heap.size,0,none⟩) 1 1]).run Tryz.prog (wr.alloc (.cells news.toArray 23))=.ok (.slice (some ⟨g,0,none⟩) (k+1) cap) w')∧k+1≤cap∧OwnS w' g cap 2 23 (V++news)∧((wr.heap.size≤g∧Kept wr w')∨((∃c0,lv=.slice (some ⟨g,0,none⟩) k c0)∧Grw g (wr.alloc (.cells news.toArray 23)) w')):=by
 obtain⟨i,hi,hz2,hs,hb⟩:=info_parts VY
 have ht:=JN
 have hz:(Value.agg #[.int .i64 0,.int .i64 0]).cells.size=2:=by simp[Value.cells]
 have hK:Kept wr (wr.alloc (.cells news.toArray 23)):=(qia _).alloc _ _
 obtain⟨w,hw⟩:∃w,w=wr.alloc (.cells news.toArray 23):=⟨_,rfl⟩
 have hws:w.heap.size=wr.heap.size+1:=by rw[hw];simp
 have hcell:∀j u,news[j]?=some u→w.cell? ((⟨wr.heap.size,0,none⟩:Addr).add j)=some u:=fun j u hj=>by
  rw[hw,Addr.add_lit,Nat.zero_add]
  rw[cell_of_row (wr.alloc (.cells news.toArray 23)) wr.heap.size j news.toArray 23 (0,0) (heap_alloc_new wr _)]
  simpa using hj
 have hS:Src Tryz.prog i.size 26 (.slice (some ⟨wr.heap.size,0,none⟩) 1 1) 1 news w:=Src.ofSlice w ht ⟨wr.heap.size,0,none⟩ 1 1 news (by rw[hs,hn]) hcell h1
 rw[←hw]at hK ⊢
 have hbz:i.bytes≤16:=by rw[hb];exact qhy _
 rcases hM with ⟨rfl,rfl,rfl⟩|⟨g,cap,rfl,hVl,hkc,hO⟩
 ·obtain⟨C,hC⟩:∃C,grownCap w (0+1) 0 23=C:=⟨_,rfl⟩
  have hC1:0+1≤C:=by rw[←hC];exact grownCap_ge _ _ _ _
  have hC2:C≤maxLen:=by rw[←hC];exact grownCap_le_maxLen _ _ _ _ (by simp[maxLen])
  have hN:=y9 w.drew 23 _ 2 hz news 1 C (by rw[hn]) (by omega) hC2
  have hKN:Kept w (w.drew.alloc (.cells (news.toArray++Builtin.zeroCells (Value.agg #[.int .i64 0,.int .i64 0]).cells (C-1)) 23)):=(qia w).drew.alloc _ _
  refine⟨w.heap.size,C,_,fun ty=>?_,by omega,by simpa using hN,.inl ⟨by omega,hK.trans hKN⟩⟩
  have:=run_append_grow_src w 26 26 ty 23 i _ ht hi hz2 none 0 0 [] (by simpa using run_firstCells_none (P:=Tryz.prog) w.drew i.size 0 0 0) (.slice (some ⟨wr.heap.size,0,none⟩) 1 1) 1 news hS (by omega) (by omega) (growslice_fits (by omega) (by rw[hb];omega))
  rw[hC]at this
  rw[this]
  simp
 ·have hO':=hO.kept hK
  have hnl:(V++news).length=(k+1)*2:=by rw[List.length_append,hVl,hn,Nat.succ_mul]
  by_cases hr:k+1≤cap
  ·have hroom:V.length+news.length≤cap*2:=by omega
   refine⟨g,cap,w.setCells g V.length news,fun ty=>?_,hr,hO'.pushes news hroom,.inr ⟨⟨_,rfl⟩,(Grw.refl g w).setCells news V.length⟩⟩
   have:=run_append_room_src w 26 26 ty 23 i ht hi g 0 k cap (.slice (some ⟨wr.heap.size,0,none⟩) 1 1) 1 news hS hr (fun j hj=>hO'.some _ (by rw[hs,←hVl];omega)) (fun j hj=>hO'.free _)
   rw[this,hs,hVl]
   simp
  ·obtain⟨C,hC⟩:∃C,grownCap w (k+1) cap 23=C:=⟨_,rfl⟩
   have hC1:k+1≤C:=by rw[←hC];exact grownCap_ge _ _ _ _
   have hC2:C≤maxLen:=by rw[←hC];exact grownCap_le_maxLen _ _ _ _ (by simp[maxLen];omega)
   have hN:=y9 w.drew 23 _ 2 hz (V++news) (k+1) C hnl hC1 hC2
   have hKN:Kept w (w.drew.alloc (.cells ((V++news).toArray++Builtin.zeroCells (Value.agg #[.int .i64 0,.int .i64 0]).cells (C-(k+1))) 23)):=(qia w).drew.alloc _ _
   refine⟨w.heap.size,C,_,fun ty=>?_,hC1,by simpa using hN,.inl ⟨by omega,hK.trans hKN⟩⟩
   have hcl:cap<k+1:=by omega
   have:=run_append_grow_src w 26 26 ty 23 i _ ht hi hz2 (some ⟨g,0,none⟩) k cap V (run_firstCells_some (P:=Tryz.prog) w.drew i.size k ⟨g,0,none⟩ k cap V (by rw[hs];exact hVl) (fun j u hu=>by rw[Addr.add_lit,Nat.zero_add];exact hO'.cell j u hu)) (.slice (some ⟨wr.heap.size,0,none⟩) 1 1) 1 news hS hcl (by omega) (growslice_fits hcl (by rw[hb];omega))
   rw[hC]at this
   rw[this]
theorem qg8 (m:Nat)(hm:m≤100000)(la lb:Nat→Int)(ao:Option Addr)(c:Nat)(w:World)(h:Sps w ao m la lb):∃v1 w1 g cap w2,(∀ty,(Builtin.append_ #[26,26] ty #[.slice none 0 0,.slice ao m c]).run Tryz.prog w=.ok v1 w1)∧(∀ty,(Builtin.append_ #[26,26] ty #[v1,.slice (some ⟨w1.heap.size,0,none⟩) 1 1]).run Tryz.prog (w1.alloc (.cells #[.int .i64 (-5),.int .i64 (-6)] 23))=.ok (.slice (some ⟨g,0,none⟩) (m+1) cap) w2)∧w.heap.size≤g∧m+1≤cap∧OwnS w2 g cap 2 23 (spl la lb m++[.int .i64 (-5),.int .i64 (-6)])∧Kept w w2:=by
 obtain⟨i,hi,hz2,hs,hb⟩:=info_parts VY
 have ht:=JN
 have hz:(Value.agg #[.int .i64 0,.int .i64 0]).cells.size=2:=by simp[Value.cells]
 have h1:∀u∈[Value.int .i64 (-5),Value.int .i64 (-6)],u.oneCell'=true:=fun u hu=>by
  simp at hu
  rcases hu with rfl|rfl<;>rfl
 by_cases h0:m=0
 ·subst h0
  obtain⟨g,cap,w2,r2,hc,hO,hk⟩:=JO w (.slice none 0 0) 0 [] (.inl ⟨rfl,rfl,rfl⟩) [.int .i64 (-5),.int .i64 (-6)] rfl h1 (by omega)
  rcases hk with ⟨hg,hk⟩|⟨⟨c0,e⟩,-⟩
  ·refine⟨.slice none 0 0,w,g,cap,w2,fun ty=>run_append_nothing w 26 26 ty 23 i ht hi none 0 0 (by omega) _ ?_,r2,hg,hc,hO,hk⟩
   cases ao with
   |none=>exact Src.ofNil w ht c
   |some a=>exact Src.ofSlice w ht a 0 c [] (by simp) (fun j u hu=>by simp at hu) (fun u hu=>by cases hu)
  ·cases e
 ·obtain⟨b,off,rfl,-,-⟩:=h w (qia w) 0 (by omega)
  have hcl:∀i,i<m→w.cell? ⟨b,off+i*2,none⟩=some (.int .i64 (la i))∧w.cell? ⟨b,off+i*2+1,none⟩=some (.int .i64 (lb i)):=fun i hi=>by
   obtain⟨b',off',e,g1,g2⟩:=h w (qia w) i hi
   cases e
   exact⟨g1,g2⟩
  have hl:=vG la lb m
  have hS:Src Tryz.prog i.size 26 (.slice (some ⟨b,off,none⟩) m c) m (spl la lb m) w:=Src.ofSlice w ht ⟨b,off,none⟩ m c (spl la lb m) (by rw[hs,hl]) (qed la lb m b off w hcl) (qec la lb m)
  obtain⟨C,hC⟩:∃C,grownCap w (0+m) 0 23=C:=⟨_,rfl⟩
  have hC1:0+m≤C:=by rw[←hC];exact grownCap_ge _ _ _ _
  have hC2:C≤maxLen:=by rw[←hC];exact grownCap_le_maxLen _ _ _ _ (by simp[maxLen];omega)
  have hN:=y9 w.drew 23 _ 2 hz (spl la lb m) m C hl (by omega) hC2
  obtain⟨w1,hw1⟩:∃w1,w1=w.drew.alloc (.cells ((spl la lb m).toArray++Builtin.zeroCells (Value.agg #[.int .i64 0,.int .i64 0]).cells (C-m)) 23):=⟨_,rfl⟩
  have hK1:Kept w w1:=by rw[hw1];exact(qia w).drew.alloc _ _
  rw[←hw1]at hN
  have r1:∀ty,(Builtin.append_ #[26,26] ty #[.slice none 0 0,.slice (some ⟨b,off,none⟩) m c]).run Tryz.prog w=.ok (.slice (some ⟨w.heap.size,0,none⟩) m C) w1:=fun ty=>by
   have:=run_append_grow_src w 26 26 ty 23 i _ ht hi hz2 none 0 0 [] (by simpa using run_firstCells_none (P:=Tryz.prog) w.drew i.size 0 0 0) (.slice (some ⟨b,off,none⟩) m c) m (spl la lb m) hS (by omega) (by omega) (growslice_fits (by omega) (by rw[hb];omega))
   rw[hC]at this
   rw[this,hw1]
   simp
  obtain⟨g,cap,w2,r2,hc,hO,hk⟩:=JO w1 (.slice (some ⟨w.heap.size,0,none⟩) m C) m (spl la lb m) (.inr ⟨_,C,rfl,hl,by omega,by simpa using hN⟩) [.int .i64 (-5),.int .i64 (-6)] rfl h1 (by omega)
  have hs1:=hK1.below.size
  refine⟨_,w1,g,cap,w2,r1,r2,?_,hc,hO,?_⟩
  ·rcases hk with ⟨hg,-⟩|⟨⟨c0,e⟩,-⟩
   ·omega
   ·cases e;exact qhy _
  ·rcases hk with ⟨-,hk⟩|⟨⟨c0,e⟩,hk⟩
   ·exact hK1.trans hk
   ·cases e
    exact(hK1.alloc _ _).grw (qhy _) hk
theorem qbg (la lb:Nat→Int)(m:Nat)(w:World)(g cap:Nat)(V:List Value)(hO:OwnS w g cap 2 23 (spl la lb m++V)):Sps w (some ⟨g,0,none⟩) m la lb:=fun u ku i hi=>by
 have hl:=vG la lb m
 obtain⟨g1,g2⟩:=VX la lb m i hi
 refine⟨g,0,rfl,?_,?_⟩
 ·rw[Nat.zero_add]
  exact(hO.kept ku).cell _ _ (by rw[List.getElem?_append_left (by omega)];exact g1)
 ·rw[Nat.zero_add]
  exact(hO.kept ku).cell _ _ (by rw[List.getElem?_append_left (by omega)];exact g2)
theorem qbh (la lb:Nat→Int)(m:Nat)(w:World)(g cap:Nat)(hO:OwnS w g cap 2 23 (spl la lb m++[.int .i64 (-5),.int .i64 (-6)])):∀u,Kept w u→u.cell? ⟨g,m*2,none⟩=some (.int .i64 (-5))∧u.cell? ⟨g,m*2+1,none⟩=some (.int .i64 (-6)):=fun u ku=>by
 have hl:=vG la lb m
 refine⟨(hO.kept ku).cell _ _ ?_,(hO.kept ku).cell _ _ ?_⟩
 ·rw[List.getElem?_append_right (by omega),hl,Nat.sub_self];rfl
 ·rw[List.getElem?_append_right (by omega),hl,show m*2+1-m*2=1 by omega];rfl
theorem qgb (n:Int)(m c:Nat)(ao:Option Addr)(w:World)
  (KV:Hid (∀u,Calls Tryz.prog 65 #[.int .i64 0,.int .i64 n] u fun e w'=>e=.returned (.bool false)∧u=w')):
  Calls Tryz.prog 26 #[.slice ao m c,.int .i64 n] w fun e w'=>e=.returned (.tuple #[sp2 0 0,.int .i64 3])∧Kept w w':=by
 obtain⟨X,hX⟩:∃X,X=w.alloc (.cells #[.int .i64 0,.int .i64 0] 23):=⟨_,rfl⟩
 have hK:Kept w X:=by
  rw[hX]
  exact(qia w).alloc _ _
 have hQ:P2 X w.heap.size (.int .i64 0) (.int .i64 0):=by
  rw[hX]
  exact P2.new w _ _ _
 obtain⟨H0,hH0⟩:∃H,H=w.heap.size:=⟨_,rfl⟩
 rw[←hH0]at hQ
 have o0:w.heap.size≤H0:=by omega
 go_enter Tryz.func26,Tryz.ntmps26
 go_upto_region 1 with fail
 rw[←hX,←hH0]
 clear hX hH0
 have hz:=hQ.put (.int .i64 0) (.int .i64 0)
 obtain⟨d0,d1,df⟩:=hQ
 obtain⟨e0,e1,ef⟩:=hz
 go_wp2_with (first|(go_at_call 65;refine(KV.out _).mono ?_;rintro e w1 ⟨rfl,rfl⟩))
 exact qh9 (v:=.tuple #[sp2 0 0,.int .i64 3]) (by simp[results,Tryz.results26,go_sem,e0,e1]) rfl ⟨rfl,(hK.setCell o0 _).setCell o0 _⟩
theorem qgc (n:Int)(m c:Nat)(hm:65536<m)(ao:Option Addr)(w:World)
  (KV:Hid (∀u,Calls Tryz.prog 65 #[.int .i64 0,.int .i64 n] u fun e w'=>e=.returned (.bool true)∧u=w')):
  Calls Tryz.prog 26 #[.slice ao m c,.int .i64 n] w fun e w'=>e=.returned (.tuple #[sp2 0 0,.int .i64 2])∧Kept w w':=by
 obtain⟨X,hX⟩:∃X,X=w.alloc (.cells #[.int .i64 0,.int .i64 0] 23):=⟨_,rfl⟩
 have hK:Kept w X:=by
  rw[hX]
  exact(qia w).alloc _ _
 have hQ:P2 X w.heap.size (.int .i64 0) (.int .i64 0):=by
  rw[hX]
  exact P2.new w _ _ _
 obtain⟨H0,hH0⟩:∃H,H=w.heap.size:=⟨_,rfl⟩
 rw[←hH0]at hQ
 have o0:w.heap.size≤H0:=by omega
 have hlen:decide ((m:Int)>65536)=true:=by rw[decide_eq_true_iff];omega
 have hlen2:decide ((65536:Int)<(m:Int))=true:=by rw[decide_eq_true_iff];omega
 clear hm
 go_enter Tryz.func26,Tryz.ntmps26
 go_upto_region 1 with fail
 rw[←hX,←hH0]
 clear hX hH0
 have hz:=hQ.put (.int .i64 0) (.int .i64 0)
 obtain⟨d0,d1,df⟩:=hQ
 obtain⟨e0,e1,ef⟩:=hz
 go_wp2_with (first|(go_at_call 65;refine(KV.out _).mono ?_;rintro e w1 ⟨rfl,rfl⟩))
 exact qh9 (v:=.tuple #[sp2 0 0,.int .i64 2]) (by simp[results,Tryz.results26,go_sem,e0,e1]) rfl ⟨rfl,(hK.setCell o0 _).setCell o0 _⟩
theorem qgd (n:Int)(m c j:Nat)(hm:m≤65536)(hj:j<m)(la lb:Nat→Int)(fx fy:Nat→Nat)(ao:Option Addr)(w:World)(hI:Sps w ao m la lb)
  (KV:Hid (∀u,Calls Tryz.prog 65 #[.int .i64 0,.int .i64 n] u fun e w'=>e=.returned (.bool true)∧u=w'))
  (KO:Hid (∀i,i<j→∀u,Calls Tryz.prog 66 #[sp2 (la i) (lb i),.int .i64 n] u fun e w'=>e=.returned (.tuple #[fv2 (fx i) (fy i),.int .i64 0])∧Kept u w'))
  (KJ:Hid (∀u,Calls Tryz.prog 66 #[sp2 (la j) (lb j),.int .i64 n] u fun e w'=>e=.returned (.tuple #[fv2 0 0,.int .i64 1])∧Kept u w')):
  Calls Tryz.prog 26 #[.slice ao m c,.int .i64 n] w fun e w'=>e=.returned (.tuple #[sp2 0 0,.int .i64 1])∧Kept w w':=by
 have HI:Hid (Sps w ao m la lb):=hI
 clear hI
 have hSF:=j6
 obtain⟨X,hX⟩:∃X,X=w.alloc (.cells #[.int .i64 0,.int .i64 0] 23):=⟨_,rfl⟩
 have hK:Kept w X:=by
  rw[hX]
  exact(qia w).alloc _ _
 have hQ:P2 X w.heap.size (.int .i64 0) (.int .i64 0):=by
  rw[hX]
  exact P2.new w _ _ _
 obtain⟨H0,hH0⟩:∃H,H=w.heap.size:=⟨_,rfl⟩
 rw[←hH0]at hQ
 have o0:w.heap.size≤H0:=by omega
 have hlen:decide ((m:Int)>65536)=false:=by rw[decide_eq_false_iff_not];omega
 have hlen2:decide ((65536:Int)<(m:Int))=false:=by rw[decide_eq_false_iff_not];omega
 have hmk:=QK m (by omega) X
 have hA:=Ar2.made m fx fy X
 obtain⟨Y,hY⟩:∃Y,Y=X.alloc (.cells (madeCells #[.float .f64 0,.float .f64 0] (m*2)) 68):=⟨_,rfl⟩
 have kXY:Kept X Y:=by
  rw[hY]
  exact(qia X).alloc _ _
 obtain⟨D,hD⟩:∃D,D=X.heap.size:=⟨_,rfl⟩
 have nD:H0≠D:=by have:=hQ.lt;omega
 have nD':D≠H0:=fun e=>nD e.symm
 have oD:w.heap.size≤D:=by have:=hK.below.size;omega
 rw[←hY,←hD]at hmk hA
 go_enter Tryz.func26,Tryz.ntmps26
 go_upto_region 1 with fail
 rw[←hX,←hH0]
 clear hX hH0 hY hD
 go_upto_region 7 with (first|(go_at_call 65;refine(KV.out _).mono ?_;rintro e w1 ⟨rfl,rfl⟩))
 clear KV hmk
 have hQ:=hQ.kept kXY
 have hK:=hK.trans kXY
 clear kXY
 go_loopw [26] (fun i wr=>∃(k:Nat),k≤j∧i=.int .i64 k∧Ar2 wr D m k fx fy∧P2 wr H0 (.int .i64 0) (.int .i64 0)∧Kept w wr) (fun i _=>m-(intOf i).toNat)
 case atStart=>exact⟨0,Nat.zero_le _,rfl,hA,hQ,hK⟩
 case round=>
  clear hQ hK hA
  obtain⟨k,hk,rfl,hA,hQ,hK⟩:=hrel
  have hkm:k<m:=by omega
  obtain⟨b,off,rfl,ci0,ci1⟩:=HI.out _ hK k hkm
  by_cases hkj:k<j
  ·have KO2:Hid (∀u,Calls Tryz.prog 66 #[sp2 (la k) (lb k),.int .i64 n] u fun e w'=>e=.returned (.tuple #[fv2 (fx k) (fy k),.int .i64 0])∧Kept u w'):=KO.out k hkj
   have HP:Hid (∀u,Kept wr u→Ar2 ((u.setCell ⟨D,k*2,none⟩ (.float .f64 (fx k))).setCell ⟨D,k*2+1,none⟩ (.float .f64 (fy k))) D m (k+1) fx fy):=fun u kk=>(hA.kept kk).put hkm
   have HE:Hid (∀u,Kept wr u→∃v0 v1,u.cell? ⟨D,k*2,none⟩=some v0∧u.cell? ⟨D,k*2+1,none⟩=some v1):=fun u kk=>by
    obtain⟨v0,h0⟩:=(hA.kept kk).ex (k*2) (by omega)
    obtain⟨v1,h1⟩:=(hA.kept kk).ex (k*2+1) (by omega)
    exact⟨v0,v1,h0,h1⟩
   have HF:Hid (∀u,Kept wr u→u.frozen? ⟨D,k*2,none⟩=false∧u.frozen? ⟨D,k*2+1,none⟩=false):=fun u kk=>⟨(hA.kept kk).fz _,(hA.kept kk).fz _⟩
   clear KO KJ HI hA
   generalize la k=l0 at *
   generalize lb k=l1 at *
   generalize fx k=xk at *
   generalize fy k=yk at *
   go_wp2_with (first|(go_at_call 66;refine(KO2.out _).mono ?_;rintro e w5 ⟨rfl,k5⟩;have k6:=(((qia wr).alloc _ _).trans k5).alloc #[.float .f64 xk,.float .f64 yk] 68;obtain⟨v0,v1,s0,s1⟩:=HE.out _ k6;obtain⟨g0,g1⟩:=HF.out _ k6))
   go_roundw
   case rel=>exact⟨k+1,by omega,by go_num,HP.out _ k6,((hQ.kept k6).set D _ nD' _).set D _ nD' _,((hK.trans k6).setCell oD _).setCell oD _⟩
   case measure=>simp[intOf];omega
  ·obtain rfl:k=j:=by omega
   clear KO HI hA
   generalize la k=l0 at *
   generalize lb k=l1 at *
   go_wp2_with (first|(go_at_call 66;refine(KJ.out _).mono ?_;rintro e w5 ⟨rfl,k5⟩;have k6:=(((qia wr).alloc _ _).trans k5).alloc #[.float .f64 0,.float .f64 0] 68;have hz:=(hQ.kept k6).put (.int .i64 0) (.int .i64 0);obtain⟨d0,d1,df⟩:=hQ.kept k6;obtain⟨e0,e1,ef⟩:=hz))
   exact qh9 (v:=.tuple #[sp2 0 0,.int .i64 1]) (by simp[results,Tryz.results26,go_sem,e0,e1]) rfl ⟨rfl,((hK.trans k6).setCell o0 _).setCell o0 _⟩
end Go.Proofs.YtaglkncdedeipaaGreatDoor
namespace Go.Proofs.YtaglkncdedeipaaGreatDoor
open Go.ChangeShapes Go.WideShapes Go.ChangeAt Go.RowKit Ieee
set_option linter.unusedVariables false
set_option linter.unusedSimpArgs false
set_option maxHeartbeats 16000000
set_option maxRecDepth 100000
def fs5 (n:Int)(ok:Bool):Int:=if n=64∨n=32 then (if ok=true then 0 else 1)else 3
theorem Zw (n:Int)(ok:Bool)(w:World):Calls Tryz.prog 13 #[.int .i64 n,.bool ok] w fun e w'=>e=.returned (.int .i64 (fs5 n ok))∧Kept w w':=by
 unfold fs5
 by_cases h32:n=32
 ·subst h32
  rw[if_pos (.inr rfl)]
  cases ok
  ·go_enter Tryz.func13,Tryz.ntmps13
   go_wp2_with fail
   go_ret
   exact⟨rfl,qia _⟩
  ·go_enter Tryz.func13,Tryz.ntmps13
   go_wp2_with fail
   go_ret
   exact⟨rfl,qia _⟩
 ·by_cases h64:n=64
  ·subst h64
   rw[if_pos (.inl rfl)]
   cases ok
   ·go_enter Tryz.func13,Tryz.ntmps13
    go_wp2_with fail
    go_ret
    exact⟨rfl,qia _⟩
   ·go_enter Tryz.func13,Tryz.ntmps13
    go_wp2_with fail
    go_ret
    exact⟨rfl,qia _⟩
  ·rw[if_neg (by omega)]
   have b1:(n != 32)=true:=by simpa using h32
   have b2:(n != 64)=true:=by simpa using h64
   go_enter Tryz.func13,Tryz.ntmps13
   go_wp2_with fail
   go_ret
   exact⟨rfl,qia _⟩
theorem Zx (q:Int)(hq:(q != 0)=true)(r1 r2:Int)(w:World):Calls Tryz.prog 18 #[.agg #[.int .i64 0,.int .i64 0],.int .i64 q,.int .i64 q,.agg #[.int .i64 r1,.int .i64 r2]] w fun e w'=>e=.returned (.bool true)∧Kept w w':=by
 have b1:(q==q)=true:=by simp
 go_enter Tryz.func18,Tryz.ntmps18
 go_wp2_with fail
 go_ret
 exact⟨rfl,((qia _).alloc _ _).alloc _ _⟩
theorem qf6 (r1 r2:Int)(w:World):Calls Tryz.prog 18 #[.agg #[.int .i64 r1,.int .i64 r2],.int .i64 0,.int .i64 0,.agg #[.int .i64 r1,.int .i64 r2]] w fun e w'=>e=.returned (.bool true)∧Kept w w':=by
 have b1:(r1==r1)=true:=by simp
 have b2:(r2==r2)=true:=by simp
 go_enter Tryz.func18,Tryz.ntmps18
 go_wp2_with fail
 go_ret
 exact⟨rfl,((qia _).alloc _ _).alloc _ _⟩
end Go.Proofs.YtaglkncdedeipaaGreatDoor
namespace Go.Proofs.YtaglkncdedeipaaGreatDoor
open Go.ChangeShapes Go.WideShapes Go.ChangeAt Go.RowKit
set_option linter.unusedVariables false
set_option linter.unusedSimpArgs false
set_option maxHeartbeats 16000000
set_option maxRecDepth 100000
def avl (v:Nat→Bool):Nat→Bool
 |0=>true
 |k+1=>avl v k&&v k
theorem xE (n:Int)(m c:Nat)(hm:m≤70000)(la lb:Nat→Int)(ao:Option Addr)(r1 r2 q f1 t1 t2:Int)(vv:Nat→Bool)(w:World)(hI:Sps w ao m la lb)
  (hcase:(f1=3∧q=3)∨(f1=0∧65536<m∧q=2)∨(f1=0∧m≤65536∧q=1)∨(f1=0∧m≤65536∧q=0))
  (KS:Hid (∀u g cap,Kept w u→Sps u (some ⟨g,0,none⟩) m la lb→Calls Tryz.prog 26 #[.slice (some ⟨g,0,none⟩) m cap,.int .i64 n] u fun e w'=>e=.returned (.tuple #[.agg #[.int .i64 r1,.int .i64 r2],.int .i64 q])∧Kept u w'))
  (KV:Hid (∀k,k<m→∀u,Calls Tryz.prog 12 #[.agg #[.int .i64 (la k),.int .i64 (lb k)],.int .i64 n] u fun e w'=>e=.returned (.bool (vv k))∧Kept u w'))
  (KF1:Hid (∀u,Calls Tryz.prog 13 #[.int .i64 n,.bool true] u fun e w'=>e=.returned (.int .i64 f1)∧Kept u w'))
  (KF2:Hid (f1=0→m≤65536→∀u,Calls Tryz.prog 13 #[.int .i64 n,.bool (avl vv m)] u fun e w'=>e=.returned (.int .i64 q)∧Kept u w'))
  (KR:Hid (q=0→∀u,Kept w u→Calls Tryz.prog 27 #[.slice ao m c,.int .i64 n] u fun e w'=>e=.returned (.agg #[.int .i64 t1,.int .i64 t2])∧Kept u w'))
  (KI:Hid (∀u s1 s2,(q=0→s1=t1∧s2=t2)→(q≠0→s1=0∧s2=0)→Calls Tryz.prog 18 #[.agg #[.int .i64 r1,.int .i64 r2],.int .i64 q,.int .i64 q,.agg #[.int .i64 s1,.int .i64 s2]] u fun e w'=>e=.returned (.bool true)∧Kept u w')):
  Calls Tryz.prog 8 #[.slice ao m c,.int .i64 n] w fun e w'=>e=.returned (.bool true)∧Kept w w':=by
 obtain⟨v1,w1,g,cap,w2,hr1,hr2,hg,hcap,hO,hk⟩:=qg8 m (by omega) la lb ao c w hI
 have H1:Hid (∀ty,(Builtin.append_ #[26,26] ty #[.slice none 0 0,.slice ao m c]).run Tryz.prog w=.ok v1 w1):=hr1
 have H2:Hid (∀ty,(Builtin.append_ #[26,26] ty #[v1,.slice (some ⟨w1.heap.size,0,none⟩) 1 1]).run Tryz.prog (w1.alloc (.cells #[.int .i64 (-5),.int .i64 (-6)] 23))=.ok (.slice (some ⟨g,0,none⟩) (m+1) cap) w2):=hr2
 have HE:Hid (∀u,Kept w2 u→u.cell? ⟨g,m*2,none⟩=some (.int .i64 (-5))∧u.cell? ⟨g,m*2+1,none⟩=some (.int .i64 (-6))):=qbh la lb m w2 g cap hO
 have HL:Hid (Sps w2 (some ⟨g,0,none⟩) m la lb):=qbg la lb m w2 g cap _ hO
 have HI:Hid (Sps w ao m la lb):=hI
 have z1:m≤cap:=by omega
 clear hr1 hr2 hO hI hg
 go_enter Tryz.func8,Tryz.ntmps8
 go_upto_region 2 with (first|(at_builtin;refine ql rfl _ _ _ rfl _ _ rfl rfl _ _ (H1.out _) ?_)|(at_builtin;refine ql rfl _ _ _ rfl _ _ rfl rfl _ _ (H2.out _) ?_))
 clear H1 H2
 go_upto_region 3 with (first|(go_at_call 26;refine(KS.out _ _ _ hk HL.out).mono ?_;rintro e w3 ⟨rfl,k3⟩))
 obtain⟨X,hX⟩:∃X,X=w3.alloc (.cells #[.int .i64 r1,.int .i64 r2] 23):=⟨_,rfl⟩
 obtain⟨B,hB⟩:∃B,B=w3.heap.size:=⟨_,rfl⟩
 have kX:Kept w2 X:=by rw[hX];exact k3.alloc _ _
 have hP:P2 X B (.int .i64 r1) (.int .i64 r2):=by rw[hX,hB];exact P2.new w3 _ _ _
 rw[←hX,←hB]
 clear hX hB k3 KS
 have HP:Hid (P2 X B (.int .i64 r1) (.int .i64 r2)):=hP
 clear hP
 have hK:Kept w X:=hk.trans kX
 clear hk
 go_wp2_with fail
 go_loopw [8,9] (fun ok i wr=>∃k:Nat,k≤m∧i=.int .i64 k∧ok=.bool (avl vv k)∧Kept X wr) (fun _ i _=>m-(intOf i).toNat)
 case atStart=>exact⟨0,Nat.zero_le _,rfl,rfl,qia X⟩
 case round=>
  obtain⟨k,hkm',rfl,rfl,kr⟩:=hrel
  by_cases hkm:k<m
  ·obtain⟨eb,eo,rfl,c0,c1⟩:=HI.out _ (hK.trans kr) k hkm
   obtain⟨gb,go,e,d0,d1⟩:=HL.out _ (kX.trans kr) k hkm
   cases e
   rw[Nat.zero_add]at d0 d1
   have HC:Hid (∀u,Kept wr u→u.cell? ⟨eb,eo+k*2,none⟩=some (.int .i64 (la k))∧u.cell? ⟨eb,eo+k*2+1,none⟩=some (.int .i64 (lb k))):=fun u ku=>by
    obtain⟨b',off',e,h1,h2⟩:=HI.out u ((hK.trans kr).trans ku) k hkm
    cases e
    exact⟨h1,h2⟩
   have KVk:Hid (∀u,Calls Tryz.prog 12 #[.agg #[.int .i64 (la k),.int .i64 (lb k)],.int .i64 n] u fun e w'=>e=.returned (.bool (vv k))∧Kept u w'):=KV.out k hkm
   have ha:avl vv (k+1)=(avl vv k&&vv k):=rfl
   have hkm2:k<m+1:=by omega
   clear KV KF1 KF2 KR KI HE HL HI HP hcase
   generalize avl vv k=ok at *
   generalize vv k=vk at *
   generalize la k=x0 at *
   generalize lb k=x1 at *
   go_upto_region 7 with fail
   go_quiet (fail)
   have kq:=(qia wr).drewN nq
   obtain⟨c0,c1⟩:=HC.out _ kq
   clear d0 d1
   cases ok with
   |true=>
    go_wp2_with (first|(go_at_call 12;refine(KVk.out _).mono ?_;rintro e w5 ⟨rfl,k5⟩))
    go_roundw
    case rel=>exact⟨k+1,by omega,by go_num,by rw[ha];rfl,(kr.trans kq).trans k5⟩
    case measure=>simp[intOf];omega
   |false=>
    go_wp2_with fail
    go_roundw
    case rel=>exact⟨k+1,by omega,by go_num,by rw[ha];rfl,kr.trans kq⟩
    case measure=>simp[intOf];omega
  ·have hkm2:k=m:=by omega
   subst hkm2
   have HQ:Hid (∀u,Kept X u→(u.cell? ⟨B,0,none⟩=some (.int .i64 r1)∧u.cell? ⟨B,1,none⟩=some (.int .i64 r2))∧u.cell? ⟨g,k*2,none⟩=some (.int .i64 (-5))∧u.cell? ⟨g,k*2+1,none⟩=some (.int .i64 (-6))):=fun u ku=>⟨⟨(HP.out.kept ku).c0,(HP.out.kept ku).c1⟩,HE.out u (kX.trans ku)⟩
   have hkm3:k<k+1:=by omega
   have HK:Hid (Kept w X):=hK
   clear KV HL HI HE HP hkm hkm' kX hK
   generalize avl vv k=okv at *
   rcases hcase with ⟨rfl,rfl⟩|⟨rfl,hbig,rfl⟩|⟨rfl,hsm,rfl⟩|⟨rfl,hsm,rfl⟩
   ·clear KF2 KR
    go_upto_region 16 with (first|(go_at_call 13;refine(KF1.out _).mono ?_;rintro e w4 ⟨rfl,k4⟩))
    obtain⟨Y,hY⟩:∃Y,Y=w4.alloc (.cells #[.int .i64 0,.int .i64 0] 23):=⟨_,rfl⟩
    obtain⟨D,hD⟩:∃D,D=w4.heap.size:=⟨_,rfl⟩
    have kY:Kept X Y:=by rw[hY];exact(kr.trans k4).alloc _ _
    have hPD:P2 Y D (.int .i64 0) (.int .i64 0):=by rw[hY,hD];exact P2.new w4 _ _ _
    have oD:X.heap.size≤D:=by rw[hD];exact(kr.trans k4).below.size
    rw[←hY,←hD]
    clear hY hD
    obtain⟨⟨s0,s1⟩,e0,e1⟩:=HQ.out _ kY
    obtain⟨d0,d1,df⟩:=hPD
    go_wp2_with (first|(go_at_call 18;refine(KI.out _ 0 0 (fun h=>absurd h (by decide)) (fun _=>⟨rfl,rfl⟩)).mono ?_;rintro e w6 ⟨rfl,k6⟩))
    go_ret
    exact⟨rfl,HK.out.trans (kY.trans k6)⟩
   ·have dl:decide ((k:Int)>65536)=true:=by rw[decide_eq_true_iff];omega
    have dl2:decide ((65536:Int)<(k:Int))=true:=by rw[decide_eq_true_iff];omega
    clear KF2 KR hbig
    go_upto_region 16 with (first|(go_at_call 13;refine(KF1.out _).mono ?_;rintro e w4 ⟨rfl,k4⟩))
    obtain⟨Y,hY⟩:∃Y,Y=w4.alloc (.cells #[.int .i64 0,.int .i64 0] 23):=⟨_,rfl⟩
    obtain⟨D,hD⟩:∃D,D=w4.heap.size:=⟨_,rfl⟩
    have kY:Kept X Y:=by rw[hY];exact(kr.trans k4).alloc _ _
    have hPD:P2 Y D (.int .i64 0) (.int .i64 0):=by rw[hY,hD];exact P2.new w4 _ _ _
    have oD:X.heap.size≤D:=by rw[hD];exact(kr.trans k4).below.size
    rw[←hY,←hD]
    clear hY hD
    obtain⟨⟨s0,s1⟩,e0,e1⟩:=HQ.out _ kY
    obtain⟨d0,d1,df⟩:=hPD
    go_wp2_with (first|(go_at_call 18;refine(KI.out _ 0 0 (fun h=>absurd h (by decide)) (fun _=>⟨rfl,rfl⟩)).mono ?_;rintro e w6 ⟨rfl,k6⟩))
    go_ret
    exact⟨rfl,HK.out.trans (kY.trans k6)⟩
   ·have dl:decide ((k:Int)>65536)=false:=by rw[decide_eq_false_iff_not];omega
    have dl2:decide ((65536:Int)<(k:Int))=false:=by rw[decide_eq_false_iff_not];omega
    have KF3:Hid (∀u,Calls Tryz.prog 13 #[.int .i64 n,.bool okv] u fun e w'=>e=.returned (.int .i64 1)∧Kept u w'):=KF2.out rfl hsm
    clear KF2 KR hsm
    go_upto_region 11 with (first|(go_at_call 13;refine(KF1.out _).mono ?_;rintro e w4' ⟨rfl,k4'⟩))
    clear KF1
    go_upto_region 16 with (first|(go_at_call 13;refine(KF3.out _).mono ?_;rintro e w4 ⟨rfl,k4⟩))
    obtain⟨Y,hY⟩:∃Y,Y=w4.alloc (.cells #[.int .i64 0,.int .i64 0] 23):=⟨_,rfl⟩
    obtain⟨D,hD⟩:∃D,D=w4.heap.size:=⟨_,rfl⟩
    have kY:Kept X Y:=by rw[hY];exact((kr.trans k4').trans k4).alloc _ _
    have hPD:P2 Y D (.int .i64 0) (.int .i64 0):=by rw[hY,hD];exact P2.new w4 _ _ _
    have oD:X.heap.size≤D:=by rw[hD];exact((kr.trans k4').trans k4).below.size
    rw[←hY,←hD]
    clear hY hD
    obtain⟨⟨s0,s1⟩,e0,e1⟩:=HQ.out _ kY
    obtain⟨d0,d1,df⟩:=hPD
    go_wp2_with (first|(go_at_call 18;refine(KI.out _ 0 0 (fun h=>absurd h (by decide)) (fun _=>⟨rfl,rfl⟩)).mono ?_;rintro e w6 ⟨rfl,k6⟩))
    go_ret
    exact⟨rfl,HK.out.trans (kY.trans k6)⟩
   ·have dl:decide ((k:Int)>65536)=false:=by rw[decide_eq_false_iff_not];omega
    have dl2:decide ((65536:Int)<(k:Int))=false:=by rw[decide_eq_false_iff_not];omega
    have KF3:Hid (∀u,Calls Tryz.prog 13 #[.int .i64 n,.bool okv] u fun e w'=>e=.returned (.int .i64 0)∧Kept u w'):=KF2.out rfl hsm
    have KR2:Hid (∀u,Kept w u→Calls Tryz.prog 27 #[.slice ao k c,.int .i64 n] u fun e w'=>e=.returned (.agg #[.int .i64 t1,.int .i64 t2])∧Kept u w'):=KR.out rfl
    clear KF2 KR hsm
    go_upto_region 11 with (first|(go_at_call 13;refine(KF1.out _).mono ?_;rintro e w4' ⟨rfl,k4'⟩))
    clear KF1
    go_upto_region 16 with (first|(go_at_call 13;refine(KF3.out _).mono ?_;rintro e w4 ⟨rfl,k4⟩))
    obtain⟨Y,hY⟩:∃Y,Y=w4.alloc (.cells #[.int .i64 0,.int .i64 0] 23):=⟨_,rfl⟩
    obtain⟨D,hD⟩:∃D,D=w4.heap.size:=⟨_,rfl⟩
    have kY:Kept X Y:=by rw[hY];exact((kr.trans k4').trans k4).alloc _ _
    have hPD:P2 Y D (.int .i64 0) (.int .i64 0):=by rw[hY,hD];exact P2.new w4 _ _ _
    have oD:X.heap.size≤D:=by rw[hD];exact((kr.trans k4').trans k4).below.size
    rw[←hY,←hD]
    clear hY hD
    obtain⟨d0,d1,df⟩:=hPD
    go_wp2_with fail
    refine(KR2.out _ (HK.out.trans kY)).mono ?_
    rintro e w5 ⟨rfl,k5⟩
    have hPE:=P2.kept ⟨d0,d1,df⟩ k5
    have hPF:=hPE.put (.int .i64 t1) (.int .i64 t2)
    clear d0 d1 df
    obtain⟨d0,d1,df⟩:=hPE
    go_upto_region 18 with fail
    have kZ:=((kY.trans k5).setCell (p:=⟨D,0,none⟩) oD (.int .i64 t1)).setCell (p:=⟨D,1,none⟩) oD (.int .i64 t2)
    obtain⟨Z,hZ⟩:∃Z,Z=(w5.setCell ⟨D,0,none⟩ (.int .i64 t1)).setCell ⟨D,1,none⟩ (.int .i64 t2):=⟨_,rfl⟩
    rw[←hZ]at hPF kZ ⊢
    clear hZ d0 d1 df
    obtain⟨⟨s0,s1⟩,e0,e1⟩:=HQ.out _ kZ
    obtain⟨d0,d1,df⟩:=hPF
    go_wp2_with (first|(go_at_call 18;refine(KI.out _ t1 t2 (fun _=>⟨rfl,rfl⟩) (fun h=>absurd rfl h)).mono ?_;rintro e w6 ⟨rfl,k6⟩))
    go_ret
    exact⟨rfl,HK.out.trans (kZ.trans k6)⟩
end Go.Proofs.YtaglkncdedeipaaGreatDoor
