/-  -/
import Derived.Test.YtnniljhdcplkgaaGreatDoorWs07
import Derived.Deep.AppendSrc
import Derived.Deep.Upon
import Derived.Test.YtnniljhdcplkgaaGreatDoorWs10
import Derived.Deep.Cut
namespace Go.Proofs.YtnniljhdcplkgaaGreatDoor
open Go.ChangeShapes Go.WideShapes Go.ChangeAt Go.RowKit
set_option maxHeartbeats 16000000
set_option maxRecDepth 100000
set_option linter.unusedVariables false
set_option linter.unusedSimpArgs false
def OwnV (w:World)(g cap:Nat)(e:TypeId)(V:List Value):Prop:=∃cur,w.heap[g]?=some (.cells cur e (0,0))∧V.length≤cap∧cap≤maxLen∧cur.size=cap∧cur.toList.take V.length=V
theorem own_v {w:World}{g cap:Nat}{L:List Int}:Own w g cap L↔OwnV w g cap 3 (L.map (Value.int .i64)):=by
 unfold Own OwnV
 simp only[List.length_map]
theorem OwnV.lt {w:World}{g cap:Nat}{e:TypeId}{V:List Value}(h:OwnV w g cap e V):g<w.heap.size:=by
 obtain⟨cur,hg,-⟩:=h
 exact lt_of_block hg
theorem OwnV.kept {w w':World}{g cap:Nat}{e:TypeId}{V:List Value}(h:OwnV w g cap e V)(k:Kept w w'):OwnV w' g cap e V:=by
 have hl:=h.lt
 obtain⟨cur,hg,r⟩:=h
 exact⟨cur,(k.below.block g hl).trans hg,r⟩
theorem OwnV.grw {w w':World}{g g' cap:Nat}{e:TypeId}{V:List Value}(h:OwnV w g cap e V)(k:Grw g' w w')(hne:g≠g'):OwnV w' g cap e V:=by
 have hl:=h.lt
 obtain⟨cur,hg,r⟩:=h
 exact⟨cur,(k.grown.block g hl (by simpa using hne)).trans hg,r⟩
theorem OwnV.setOther {w:World}{g cap:Nat}{e:TypeId}{V:List Value}(h:OwnV w g cap e V){p:Addr}(hp:g≠p.block)(u:Value):OwnV (w.setCell p u) g cap e V:=by
 obtain⟨cur,hg,r⟩:=h
 exact⟨cur,(Below.heap_setCell w p u g hp).trans hg,r⟩
theorem OwnV.cell {w:World}{g cap:Nat}{e:TypeId}{V:List Value}(h:OwnV w g cap e V)(i:Nat)(x:Value)(hi:V[i]?=some x):w.cell? ⟨g,i,none⟩=some x:=by
 obtain⟨cur,hg,h1,h2,h3,h4⟩:=h
 rw[cell_of_row w g i cur e (0,0) hg]
 rw[←h4,List.getElem?_take]at hi
 split at hi
 ·simpa using hi
 ·cases hi
theorem OwnV.some {w:World}{g cap:Nat}{e:TypeId}{V:List Value}(h:OwnV w g cap e V)(i:Nat)(hi:i<cap):(w.cell? ⟨g,i,none⟩).isSome=true:=by
 obtain⟨cur,hg,h1,h2,h3,h4⟩:=h
 rw[cell_of_row w g i cur e (0,0) hg]
 simp
 omega
theorem OwnV.free {w:World}{g cap:Nat}{e:TypeId}{V:List Value}(h:OwnV w g cap e V)(i:Nat):w.frozen? ⟨g,i,none⟩=false:=by
 obtain⟨cur,hg,-⟩:=h
 exact frozen_of_row w g i cur e hg
theorem OwnV.set {w:World}{g cap:Nat}{e:TypeId}{V:List Value}(h:OwnV w g cap e V)(i:Nat)(x:Value):OwnV (w.setCell ⟨g,i,none⟩ x) g cap e (V.set i x):=by
 obtain⟨cur,hg,h1,h2,h3,h4⟩:=h
 refine⟨cur.setIfInBounds i x,heap_setCell_same w g i cur e _ hg,by simpa using h1,h2,by simpa using h3,?_⟩
 rw[Array.toList_setIfInBounds,List.length_set,List.take_set,h4]
theorem OwnV.push {w:World}{g cap:Nat}{e:TypeId}{V:List Value}(h:OwnV w g cap e V)(hi:V.length<cap)(x:Value):OwnV (w.setCell ⟨g,V.length,none⟩ x) g cap e (V++[x]):=by
 obtain⟨cur,hg,h1,h2,h3,h4⟩:=h
 refine⟨cur.setIfInBounds V.length x,heap_setCell_same w g V.length cur e _ hg,by simp;omega,h2,by simpa using h3,?_⟩
 rw[Array.toList_setIfInBounds,List.length_append,List.length_singleton,List.take_set,List.take_add_one,h4]
 have:(cur.toList)[V.length]?=Option.some (cur.toList[V.length]'(by simp;omega)):=List.getElem?_eq_getElem _
 rw[this,List.set_append_right _ _ (by omega),Nat.sub_self]
 rfl
theorem OwnV.pushes {g cap:Nat}{e:TypeId}(news:List Value):∀{w:World} {V:List Value} (h:OwnV w g cap e V) (hi:V.length+news.length≤cap),OwnV (w.setCells g V.length news) g cap e (V++news):=by
 induction news with
 |nil=>intro w V h hi;simpa [World.setCells] using h
 |cons x r ih=>
  intro w V h hi
  simp only[List.length_cons]at hi
  have h2:=h.push (by omega) x
  have:=ih h2 (by simp;omega)
  rw[List.length_append,List.length_singleton]at this
  rw[World.setCells]
  simpa using this
theorem Grw.setCells {g:Nat}{a:World}(news:List Value):∀{b:World} (h:Grw g a b) (o:Nat),Grw g a (b.setCells g o news):=by
 induction news with
 |nil=>intro b h o;exact h
 |cons x r ih=>intro b h o;exact ih (h.setCell o x) (o+1)
theorem ownV_new (w:World)(e:TypeId)(z:Value)(hz:z.cells.size=1)(V:List Value)(cap:Nat)(h1:V.length≤cap)(h2:cap≤maxLen):OwnV (w.alloc (.cells (V.toArray++Builtin.zeroCells z.cells (cap-V.length)) e)) w.heap.size cap e V:=by
 refine⟨_,heap_alloc_new w _,h1,h2,?_,?_⟩
 ·simp[size_zeroCells,hz];omega
 ·simp
def Rw (w:World)(v:Value)(e:TypeId)(V:List Value):Prop:=(V=[]∧v=.slice none 0 0)∨∃g cap,v=.slice (some ⟨g,0,none⟩) V.length cap∧OwnV w g cap e V
theorem app_gen (t e:TypeId)(ht:Tryz.prog.underlying t=some (.slice e))(z:Value)(by8:Nat)(hinf:(Tryz.prog.info? e).map (fun i=>(i.zero,i.size,i.bytes))=some (some z,1,by8))(hz:z.cells.size=1)(hby:by8≤24)
  (w:World) (v:Value) (olds news:List Value) (hv:Rw w v e olds) (ad:Addr) (m c:Nat) (hl:news.length=m) (hnews:∀j u,news[j]?=some u→w.cell? (ad.add j)=some u) (h1:∀u∈news,u.oneCell'=true) (hm:0<m) (hsz:olds.length+m<100000000):
  ∃g cap w',(∀ty,(Builtin.append_ #[t,t] ty #[v,.slice (some ad) m c]).run Tryz.prog w=.ok (.slice (some ⟨g,0,none⟩) (olds.length+m) cap) w')∧OwnV w' g cap e (olds++news)∧((g=w.heap.size∧Kept w w')∨(v=.slice (some ⟨g,0,none⟩) olds.length cap∧Grw g w w')):=by
 obtain⟨i,hi,hz2,hs,hb⟩:=info_parts hinf
 have hS:Src Tryz.prog i.size t (.slice (some ad) m c) m news w:=Src.ofSlice w ht ad m c news (by rw[hs];omega) hnews h1
 rcases hv with ⟨rfl,rfl⟩|⟨g,cap,rfl,hO⟩
 ·obtain⟨C,hC⟩:∃C,grownCap w (0+m) 0 e=C:=⟨_,rfl⟩
  have hC1:0+m≤C:=by rw[←hC];exact grownCap_ge _ _ _ _
  have hC2:C≤maxLen:=by rw[←hC];exact grownCap_le_maxLen _ _ _ _ (by simp[maxLen]at *;omega)
  have hO:=ownV_new w.drew e z hz news C (by omega) hC2
  have hK:Kept w (w.drew.alloc (.cells (news.toArray++Builtin.zeroCells z.cells (C-news.length)) e)):=(Kept.refl w).drew.alloc _ _
  refine⟨w.heap.size,C,_,fun ty=>?_,by simpa using hO,.inl ⟨rfl,hK⟩⟩
  have:=run_append_grow_src w t t ty e i z ht hi hz2 none 0 0 [] (by simpa using run_firstCells_none (P:=Tryz.prog) w.drew i.size 0 0 0) (.slice (some ad) m c) m news hS (by omega) (by omega) (growslice_fits (by omega) (by rw[hb];simp only[List.length_nil]at hsz;exact Nat.le_trans (Nat.mul_le_mul_left _ hby) (by omega)))
  rw[hC]at this
  rw[this]
  simp[hl]
 ·by_cases hr:olds.length+m≤cap
  ·refine⟨g,cap,w.setCells g olds.length news,fun ty=>?_,hO.pushes news (by omega),.inr ⟨rfl,(Grw.refl g w).setCells news _⟩⟩
   have:=run_append_room_src w t t ty e i ht hi g 0 olds.length cap (.slice (some ad) m c) m news hS hr (fun j hj=>hO.some _ (by rw[hs];omega)) (fun j hj=>hO.free _)
   rw[this,hs]
   simp
  ·obtain⟨C,hC⟩:∃C,grownCap w (olds.length+m) cap e=C:=⟨_,rfl⟩
   have hC1:olds.length+m≤C:=by rw[←hC];exact grownCap_ge _ _ _ _
   have hC2:C≤maxLen:=by rw[←hC];exact grownCap_le_maxLen _ _ _ _ (by simp[maxLen];omega)
   have hO2:=ownV_new w.drew e z hz (olds++news) C (by rw[List.length_append];omega) hC2
   have hK:Kept w (w.drew.alloc (.cells ((olds++news).toArray++Builtin.zeroCells z.cells (C-(olds++news).length)) e)):=(Kept.refl w).drew.alloc _ _
   refine⟨w.heap.size,C,_,fun ty=>?_,by simpa using hO2,.inl ⟨rfl,hK⟩⟩
   have hcl:cap<olds.length+m:=by omega
   have:=run_append_grow_src w t t ty e i z ht hi hz2 (some ⟨g,0,none⟩) olds.length cap olds (run_firstCells_some (P:=Tryz.prog) w.drew i.size olds.length ⟨g,0,none⟩ olds.length cap olds (by rw[hs];omega) (fun j u hu=>by rw[Addr.add_lit,Nat.zero_add];exact hO.cell j u hu)) (.slice (some ad) m c) m news hS hcl (by omega) (growslice_fits hcl (by rw[hb];exact Nat.le_trans (Nat.mul_le_mul_left _ hby) (by omega)))
   rw[hC]at this
   rw[this]
   simp[hl]
end Go.Proofs.YtnniljhdcplkgaaGreatDoor
namespace Go.Proofs.YtnniljhdcplkgaaGreatDoor
open Go.ChangeShapes Go.WideShapes Go.ChangeAt Go.RowKit
set_option maxHeartbeats 16000000
set_option maxRecDepth 100000
set_option linter.unusedVariables false
set_option linter.unusedSimpArgs false
def MR (H:Nat)(w:World)(v:Value)(M:List Int):Prop:=(M=[]∧v=.slice none 0 0)∨∃g cap,v=.slice (some ⟨g,0,none⟩) M.length cap∧H≤g∧Own w g cap M
theorem MR.kept {H:Nat}{w w':World}{v:Value}{M:List Int}(h:MR H w v M)(k:Kept w w'):MR H w' v M:=by
 rcases h with h|⟨g,cap,e,hg,ho⟩
 ·exact .inl h
 ·exact .inr ⟨g,cap,e,hg,ho.kept k⟩
theorem MR.sl {H:Nat}{w:World}{v:Value}{M:List Int}(h:MR H w v M):∃ao c,v=.slice ao M.length c∧(ao=none→c=0)∧Sl w (.slice ao M.length c) M:=by
 rcases h with ⟨rfl,rfl⟩|⟨g,cap,rfl,hg,ho⟩
 ·exact⟨none,0,rfl,fun _=>rfl,none,0,rfl,Nat.le_refl _,by simp[maxLen],fun h=>absurd rfl h⟩
 ·exact⟨_,_,rfl,fun h=>by simp at h,ho.sl⟩
theorem app_step (H:Nat)(wr:World)(lv:Value)(M:List Int)(hM:MR H wr lv M)(d:Int)(hH:H≤wr.heap.size)(hlen:M.length<10000000):∃v' w',(∀ty,(Builtin.append_ #[24,24] ty #[lv,.slice (some ⟨wr.heap.size,0,none⟩) 1 1]).run Tryz.prog (wr.alloc (.cells #[.int .i64 d] 3))=.ok v' w')∧MR H w' v' (M++[d])∧(∀W:World,W.heap.size≤H→Kept W wr→Kept W w'):=by
 have hK:Kept wr (wr.alloc (.cells #[.int .i64 d] 3)):=(Kept.refl _).alloc _ _
 have hR:Rw (wr.alloc (.cells #[.int .i64 d] 3)) lv 3 (M.map (Value.int .i64)):=by
  rcases hM with ⟨rfl,rfl⟩|⟨g,cap,rfl,hg,ho⟩
  ·exact .inl ⟨rfl,rfl⟩
  ·exact .inr ⟨g,cap,by rw[List.length_map],own_v.1 (ho.kept hK)⟩
 obtain⟨g,cap,w',hr,ho,hk⟩:=app_gen 24 3 li_under (.int .i64 0) 8 int_info (by rfl) (by decide) (wr.alloc (.cells #[.int .i64 d] 3)) lv (M.map (Value.int .i64)) [.int .i64 d] hR ⟨wr.heap.size,0,none⟩ 1 1 rfl (fun j u hj=>by
  rcases j with _|j
  ·cases hj
   simp[go_sem]
  ·simp at hj) (fun u hu=>by rw[List.mem_singleton.1 hu];rfl) (by decide) (by rw[List.length_map];omega)
 rw[List.length_map]at hr
 have hO:Own w' g cap (M++[d]):=own_v.2 (by rw[List.map_append];exact ho)
 refine⟨_,w',hr,.inr ⟨g,cap,by rw[List.length_append];rfl,?_,hO⟩,?_⟩
 ·rcases hk with ⟨e,-⟩|⟨e,-⟩
  ·rw[e];simp;omega
  ·rcases hM with ⟨-,rfl⟩|⟨g0,cap0,rfl,hg,-⟩
   ·simp at e
   ·have e':g0=g:=by simp at e;exact e.1
    omega
 ·intro W hW k
  rcases hk with ⟨e,kk⟩|⟨e,gg⟩
  ·exact(k.trans hK).trans kk
  ·refine(k.trans hK).grw ?_ gg
   rcases hM with ⟨-,rfl⟩|⟨g0,cap0,rfl,hg,-⟩
   ·simp at e
   ·have e':g0=g:=by simp at e;exact e.1
    omega
end Go.Proofs.YtnniljhdcplkgaaGreatDoor
namespace Go.Proofs.YtnniljhdcplkgaaGreatDoor
open Go.ChangeShapes Go.WideShapes Go.ChangeAt Go.RowKit
set_option maxHeartbeats 16000000
set_option maxRecDepth 100000
set_option linter.unusedVariables false
set_option linter.unusedSimpArgs false
def dl (V:Nat):Nat→List Int
 |0=>[]
 |c+1=>dl V c++[((V/2^(30*c)%1073741824:Nat):Int)]
theorem dl_zero (V:Nat):dl V 0=[]:=rfl
theorem dl_succ (V c:Nat):dl V (c+1)=dl V c++[((V/2^(30*c)%1073741824:Nat):Int)]:=rfl
theorem dl_length (V c:Nat):(dl V c).length=c:=by
 induction c with
 |zero=>rfl
 |succ c ih=>rw[dl_succ,List.length_append,ih];rfl
theorem dl_dg (V c:Nat):Dg (dl V c):=by
 induction c with
 |zero=>exact Dg.nil
 | succ c ih=>
  intro d hd
  rcases List.mem_append.1 hd with h|h
  ·exact ih d h
  ·rw[List.mem_singleton.1 h]
   omega
theorem dl_nv (V c:Nat):nv (dl V c)=V%2^(30*c):=by
 induction c with
 |zero=>rw[dl_zero,Nat.mul_zero,Nat.pow_zero,Nat.mod_one];rfl
 |succ c ih=>
  rw[dl_succ,nv_append,ih,dl_length,pow30,Nat.mul_comm 1073741824,Nat.mod_mul]
  congr 1
theorem dl_lt (V c:Nat)(h:V<2^(30*c)):nv (dl V c)=V:=by rw[dl_nv,Nat.mod_eq_of_lt h]
theorem dl_zeros (V f:Nat):dl (V*2^(30*f)) f=List.replicate f 0:=by
 have key:∀c,c≤f→dl (V*2^(30*f)) c=List.replicate c 0:=by
  intro c hc
  induction c with
  |zero=>rfl
  | succ c ih=>
   have e:V*2^(30*f)/2^(30*c)%1073741824=0:=by
    rw[show 30*f=30*(f-c-1)+30+30*c by omega,Nat.pow_add,←Nat.mul_assoc,Nat.mul_div_cancel _ (Nat.two_pow_pos _),Nat.pow_add,←Nat.mul_assoc,show(2:Nat)^30=1073741824 from rfl]
    exact Nat.mul_mod_left _ _
   rw[dl_succ,ih (by omega),e,List.replicate_succ']
   rfl
 exact key f (Nat.le_refl _)
theorem trim_list (M:List Int)(hM:Dg M)(k:Nat)(hk:k≤M.length)(hz:∀j,k≤j→M.getD j 0=0)(hl:k=0∨M.getD (k-1) 0≠0):M.take k=digs (nv M):=by
 rcases k with _|k
 ·rw[List.take_zero,(nv_zero M hM).2 (fun i=>hz i (Nat.zero_le _)),digs_zero]
 ·have hnv:=nv_take M hM k (fun j hj=>hz j hj)
  have hlen:(M.take (k+1)).length=k+1:=by rw[List.length_take];omega
  have hlast:(M.take (k+1)).getD k 0=M.getD k 0:=by
   rw[List.getD_eq_getElem?_getD,List.getD_eq_getElem?_getD,List.getElem?_take,if_pos (by omega)]
  rw[←hnv]
  refine(digs_nv _ (dg_take M hM _) (.inr ?_)).symm
  rw[hlen,Nat.add_sub_cancel,hlast]
  rcases hl with h|h
  ·omega
  ·simpa using h
theorem add_step (A B P b:Nat)(hP:0<P)(hb:0<b):(A+B)/P%b=((A%P+B%P)/P+A/P%b+B/P%b)%b∧(A%(P*b)+B%(P*b))/(P*b)=((A%P+B%P)/P+A/P%b+B/P%b)/b:=by
 constructor
 ·have e:A+B=(A%P+B%P)+P*(A/P+B/P):=by
   have h1:=Nat.mod_add_div A P
   have h2:=Nat.mod_add_div B P
   rw[Nat.mul_add]
   omega
  rw[e,Nat.add_mul_div_left _ _ hP]
  have:∀x y z:Nat,(x+(y+z))%b=(x+y%b+z%b)%b:=by
   intro x y z
   rw[Nat.add_mod (x+y%b),Nat.mod_mod,Nat.add_mod x (y%b),Nat.mod_mod,←Nat.add_assoc,Nat.add_mod (x+y) z,Nat.add_mod x y]
  exact this _ _ _
 ·rw[Nat.mod_mul,Nat.mod_mul,show A%P+P*(A/P%b)+(B%P+P*(B/P%b))=A%P+B%P+P*(A/P%b+B/P%b) by rw[Nat.mul_add];omega,←Nat.div_div_eq_div_mul,Nat.add_mul_div_left _ _ hP,Nat.add_assoc]
theorem shl_step (A u P b:Nat)(hP:0<P)(hb:0<b):(A*u)/P%b=(A/P%b*u+(A%P)*u/P)%b∧(A%(P*b))*u/(P*b)=(A/P%b*u+(A%P)*u/P)/b:=by
 constructor
 ·have e:A*u=(A%P)*u+P*(A/P*u):=by
   have h1:=Nat.mod_add_div A P
   calc A*u=(A%P+P*(A/P))*u:=by rw[h1]
    _=_:=by rw[Nat.add_mul,Nat.mul_assoc]
  rw[e,Nat.add_mul_div_left _ _ hP]
  have h:A/P%b*u%b=A/P*u%b:=by rw[Nat.mul_mod,Nat.mod_mod,←Nat.mul_mod]
  rw[Nat.add_comm,Nat.add_mod,←h,←Nat.add_mod]
 ·rw[Nat.mod_mul,Nat.add_mul,Nat.mul_assoc,←Nat.div_div_eq_div_mul,Nat.add_mul_div_left _ _ hP,Nat.add_comm]
theorem sub_step (A B P b:Nat)(hP:0<P)(hb:0<b)(h:B≤A)(c:Int)(hc:c=if A%P<B%P then 1 else 0)(s:Int)(hs:s=((A/P%b:Nat):Int)-c-((B/P%b:Nat):Int)):
  (((A-B)/P%b:Nat):Int)=(if s<0 then s+b else s)∧(A%(P*b)<B%(P*b)↔s<0):=by
 have m1:=Nat.mod_lt A hP
 have m2:=Nat.mod_lt B hP
 have a1:=Nat.mod_lt (A/P) hb
 have b1:=Nat.mod_lt (B/P) hb
 have hcc:c=0∨c=1:=by rw[hc];split<;>omega
 have hA:=Nat.mod_add_div A P
 have hB:=Nat.mod_add_div B P
 constructor
 ·
  have hq:∃q:Nat,(q:Int)=((A/P:Nat):Int)-c-((B/P:Nat):Int)∧(A-B)/P=q:=by
   have key:((A-B:Nat):Int)=(P:Int)*(((A/P:Nat):Int)-c-((B/P:Nat):Int))+(((A%P:Nat):Int)-((B%P:Nat):Int)+c*P):=by
    rw[Int.ofNat_sub h]
    have h1:(A:Int)=((A%P:Nat):Int)+(P:Int)*((A/P:Nat):Int):=by exact_mod_cast hA.symm
    have h2:(B:Int)=((B%P:Nat):Int)+(P:Int)*((B/P:Nat):Int):=by exact_mod_cast hB.symm
    have h3:c*(P:Int)=(P:Int)*c:=Int.mul_comm _ _
    rw[Int.mul_sub,Int.mul_sub,h3]
    omega
   have hr:0≤((A%P:Nat):Int)-((B%P:Nat):Int)+c*P∧((A%P:Nat):Int)-((B%P:Nat):Int)+c*P<P:=by
    rw[hc]
    split<;>omega
   have hnn:0≤((A/P:Nat):Int)-c-((B/P:Nat):Int):=by
    rcases Int.lt_or_le (((A/P:Nat):Int)-c-((B/P:Nat):Int)) 0 with g|g
    ·exfalso
     have:(P:Int)*(((A/P:Nat):Int)-c-((B/P:Nat):Int))≤(P:Int)*(-1):=Int.mul_le_mul_of_nonneg_left (by omega) (by omega)
     omega
    ·exact g
   refine⟨(((A/P:Nat):Int)-c-((B/P:Nat):Int)).toNat,by omega,?_⟩
   generalize hQ:((A/P:Nat):Int)-c-((B/P:Nat):Int)=Q at *
   generalize hR:((A%P:Nat):Int)-((B%P:Nat):Int)+c*P=R at *
   have e:A-B=P*Q.toNat+R.toNat:=by
    have:((A-B:Nat):Int)=((P*Q.toNat+R.toNat:Nat):Int):=by
     rw[key,Int.natCast_add,Int.natCast_mul,Int.toNat_of_nonneg hnn,Int.toNat_of_nonneg hr.1]
    exact_mod_cast this
   rw[e,Nat.mul_add_div hP,Nat.div_eq_of_lt (by omega),Nat.add_zero]
  obtain⟨q,hq1,hq2⟩:=hq
  rw[hq2]
  have dA:=Nat.div_add_mod (A/P) b
  have dB:=Nat.div_add_mod (B/P) b
  generalize A/P=qa at *
  generalize B/P=qb at *
  have e:(q:Int)=(b:Int)*(((qa/b:Nat):Int)-((qb/b:Nat):Int))+s:=by
   have h1:(qa:Int)=(b:Int)*((qa/b:Nat):Int)+((qa%b:Nat):Int):=by exact_mod_cast dA.symm
   have h2:(qb:Int)=(b:Int)*((qb/b:Nat):Int)+((qb%b:Nat):Int):=by exact_mod_cast dB.symm
   rw[Int.mul_sub,hs]
   omega
  have e2:((q%b:Nat):Int)=s%(b:Int):=by
   rw[Int.natCast_emod,e,Int.add_comm,Int.add_mul_emod_self_left]
  rw[e2]
  split
  ·rename_i hneg
   rw[←Int.add_emod_right,Int.emod_eq_of_lt (by omega) (by omega)]
  ·exact Int.emod_eq_of_lt (by omega) (by omega)
 ·rw[Nat.mod_mul,Nat.mod_mul]
  have p1:P*(A/P%b)+P≤P*(B/P%b)∨A/P%b=B/P%b∨P*(B/P%b)+P≤P*(A/P%b):=by
   rcases Nat.lt_trichotomy (A/P%b) (B/P%b)with g|g|g
   ·exact .inl (by have:=Nat.mul_le_mul_left P (show A/P%b+1≤B/P%b by omega);rw[Nat.mul_add]at this;omega)
   ·exact .inr (.inl g)
   ·exact .inr (.inr (by have:=Nat.mul_le_mul_left P (show B/P%b+1≤A/P%b by omega);rw[Nat.mul_add]at this;omega))
  have g1:A/P%b<B/P%b→P*(A/P%b)+P≤P*(B/P%b):=fun g=>by have:=Nat.mul_le_mul_left P (show A/P%b+1≤B/P%b by omega);rw[Nat.mul_add]at this;omega
  have g2:B/P%b<A/P%b→P*(B/P%b)+P≤P*(A/P%b):=fun g=>by have:=Nat.mul_le_mul_left P (show B/P%b+1≤A/P%b by omega);rw[Nat.mul_add]at this;omega
  rcases Nat.lt_trichotomy (A/P%b) (B/P%b)with g|g|g
  ·have:=g1 g
   constructor<;>intro<;>omega
  ·rw[g]at hs ⊢
   rw[hs,hc]
   split<;>constructor<;>intro<;>omega
  ·have:=g2 g
   constructor
   ·intro;omega
   ·intro hs0
    rw[hs,hc]at hs0
    split at hs0<;>omega
theorem shr_digit (x y s:Nat)(hs:s<30)(hx:x<1073741824):x/2^s+y%2^s*2^(30-s)=(x/2^s+y*2^(30-s))%1073741824:=by
 have hpp:2^s*2^(30-s)=1073741824:=by rw[←Nat.pow_add,show s+(30-s)=30 by omega]
 have h1:y*2^(30-s)%1073741824=y%2^s*2^(30-s):=by rw[←hpp,Nat.mul_mod_mul_right]
 have h2:x/2^s<2^(30-s):=by
  rw[Nat.div_lt_iff_lt_mul (Nat.two_pow_pos s),Nat.mul_comm,hpp]
  exact hx
 have h3:y%2^s*2^(30-s)+2^(30-s)≤1073741824:=by
  have:=Nat.mod_lt y (Nat.two_pow_pos s)
  have:=Nat.mul_le_mul_right (2^(30-s)) (show y%2^s+1≤2^s by omega)
  rw[Nat.add_mul,hpp]at this
  omega
 have h4:x/2^s<1073741824:=by have:=Nat.div_le_self x (2^s);omega
 have h5:(x/2^s+y*2^(30-s))%1073741824=(x/2^s%1073741824+y*2^(30-s)%1073741824)%1073741824:=Nat.add_mod _ _ _
 rw[h5,h1,Nat.mod_eq_of_lt h4,Nat.mod_eq_of_lt (show x/2^s+y%2^s*2^(30-s)<1073741824 by omega)]
theorem low_math (M:List Int)(hM:Dg M)(k:Nat)(hk:k<M.length)(hz:∀j,j<k→M.getD j 0=0)(v t:Nat)(ht:t<30)(hv:v%2=1)(hd:(M.getD k 0).toNat=v*2^t):tzn (nv M)=30*k+t:=by
 have e1:nv M%2^(30*k)=0:=by
  have hT:nv (M.take k)=0:=by
   refine(nv_zero _ (dg_take M hM k)).2 (fun i=>?_)
   rw[List.getD_eq_getElem?_getD,List.getElem?_take]
   split
   ·have:=hz i (by assumption)
    rw[List.getD_eq_getElem?_getD]at this
    exact this
   ·rfl
  have hs:=nv_append (M.take k) (M.drop k)
  rw[List.take_append_drop,hT,List.length_take,Nat.min_eq_left (by omega),Nat.zero_add]at hs
  rw[hs]
  exact Nat.mul_mod_right _ _
 have e2:=nv_getD M hM k
 rw[hd]at e2
 obtain⟨Q,hQ⟩:∃Q,nv M=2^(30*k)*Q:=⟨nv M/2^(30*k),by have:=Nat.mod_add_div (nv M) (2^(30*k));omega⟩
 rw[hQ,Nat.mul_div_cancel_left _ (Nat.two_pow_pos _)]at e2
 have e3:=Nat.mod_add_div Q 1073741824
 rw[←e2]at e3
 have hpp:1073741824=2^t*2^(30-t):=by rw[←Nat.pow_add,show t+(30-t)=30 by omega]
 have e4:Q=(v+2^(30-t)*(Q/1073741824))*2^t:=by
  rw[Nat.add_mul,Nat.mul_comm _ (2^t),Nat.mul_comm (2^(30-t)*_),←Nat.mul_assoc,←hpp,Nat.mul_comm (2^t)]
  omega
 have h2:2^(30-t)%2=0:=by rw[show 30-t=(29-t)+1 by omega,Nat.pow_succ];omega
 have hodd:(v+2^(30-t)*(Q/1073741824))%2=1:=by
  rw[Nat.add_mod,Nat.mul_mod,h2,Nat.zero_mul,Nat.zero_mod,Nat.add_zero,hv]
 rw[hQ,e4,Nat.mul_comm,Nat.mul_assoc,←Nat.pow_add,tzn_mul _ _ hodd]
 omega
end Go.Proofs.YtnniljhdcplkgaaGreatDoor
namespace Go.Proofs.YtnniljhdcplkgaaGreatDoor
open Go.ChangeShapes Go.WideShapes Go.ChangeAt Go.RowKit
set_option maxHeartbeats 16000000
set_option maxRecDepth 100000
set_option linter.unusedVariables false
set_option linter.unusedSimpArgs false
def RL (w:World)(v:Value)(M:List Int):Prop:=∃ao c,v=.slice ao M.length c∧(ao=none→c=0)∧Sl w (.slice ao M.length c) M
theorem RL.kept {w w':World}{v:Value}{M:List Int}(h:RL w v M)(k:Kept w w'):RL w' v M:=by
 obtain⟨ao,c,e,hc,hs⟩:=h
 exact⟨ao,c,e,hc,hs.kept k⟩
theorem RL.nil (w:World):RL w (.slice none 0 0) []:=⟨none,0,rfl,fun _=>rfl,none,0,rfl,Nat.le_refl _,by simp[maxLen],fun h=>absurd rfl h⟩
def RLp (P:Nat→Prop)(w:World)(v:Value)(M:List Int):Prop:=∃ao c,v=.slice ao M.length c∧(ao=none→c=0)∧Sl w (.slice ao M.length c) M∧∀b off,M≠[]→ao=some ⟨b,off,none⟩→P b
theorem RLp.rl {P:Nat→Prop}{w:World}{v:Value}{M:List Int}(h:RLp P w v M):RL w v M:=by
 obtain⟨ao,c,e,hc,hs,-⟩:=h
 exact⟨ao,c,e,hc,hs⟩
theorem RLp.kept {P:Nat→Prop}{w w':World}{v:Value}{M:List Int}(h:RLp P w v M)(k:Kept w w'):RLp P w' v M:=by
 obtain⟨ao,c,e,hc,hs,hp⟩:=h
 exact⟨ao,c,e,hc,hs.kept k,hp⟩
theorem RLp.imp {P Q:Nat→Prop}{w:World}{v:Value}{M:List Int}(h:RLp P w v M)(hpq:∀b,P b→Q b):RLp Q w v M:=by
 obtain⟨ao,c,e,hc,hs,hp⟩:=h
 exact⟨ao,c,e,hc,hs,fun b off hne he=>hpq b (hp b off hne he)⟩
theorem RLp.nil (P:Nat→Prop)(w:World):RLp P w (.slice none 0 0) []:=⟨none,0,rfl,fun _=>rfl,⟨none,0,rfl,Nat.le_refl _,by simp[maxLen],fun h=>absurd rfl h⟩,fun b off h=>absurd rfl h⟩
abbrev Fresh (n:Nat):Nat→Prop:=fun b=>n≤b
theorem MR.rlp {H:Nat}{w:World}{v:Value}{M:List Int}(h:MR H w v M):RLp (Fresh H) w v M:=by
 rcases h with ⟨rfl,rfl⟩|⟨g,cap,rfl,hg,ho⟩
 ·exact RLp.nil _ w
 ·exact⟨_,_,rfl,fun h=>by simp at h,ho.sl,fun b off _ e=>by cases e;exact hg⟩
theorem MR.rl {H:Nat}{w:World}{v:Value}{M:List Int}(h:MR H w v M):RL w v M:=h.sl
theorem RL.at {w:World}{v:Value}{M:List Int}(h:RL w v M):∃ao c,v=.slice ao M.length c∧(ao=none→c=0)∧∀u,Kept w u→RL u v M∧∀i,i<M.length→∃b off,ao=some ⟨b,off,none⟩∧u.cell? ⟨b,off+i,none⟩=some (.int .i64 (M.getD i 0)):=by
 obtain⟨ao,c,rfl,hc,hs⟩:=h
 refine⟨ao,c,rfl,hc,fun u k=>⟨⟨ao,c,rfl,hc,hs.kept k⟩,fun i hi=>?_⟩⟩
 obtain⟨ao',cap,e,h1,h2,hr⟩:=hs.kept k
 cases e
 have hne:M≠[]:=by intro e;subst e;simp at hi
 obtain⟨b,off,rfl,hb,hr⟩:=hr hne
 exact⟨b,off,rfl,hr i hi⟩
theorem trim_any (H:Nat)(w:World)(v:Value)(M:List Int)(hM:MR H w v M)(hD:Dg M)(hlen:M.length<100000000):Calls Tryz.prog 87 #[v] w fun e w'=>(∃r,e=.returned r∧RLp (Fresh H) w r (digs (nv M)))∧w=w':=by
 rcases hM with ⟨rfl,rfl⟩|⟨g,cap,rfl,hg,ho⟩
 ·have e0:digs (nv [])=[]:=digs_zero
  rw[e0]
  have hr:=RLp.nil (Fresh H) w
  go_enter Tryz.func87,Tryz.ntmps87
  go_wp2
  refine wp_loop_rounds 1 ?_
  rw[rounds_succ]
  go_wp2
  go_ret
  exact⟨⟨_,rfl,hr⟩,rfl⟩
 ·have hcap:M.length≤cap:=by obtain⟨_,_,h1,_⟩:=ho;exact h1
  have HO:Hid (Own w g cap M):=ho
  have HG:Hid (H≤g):=hg
  obtain⟨n,hn⟩:∃n,n=M.length:=⟨_,rfl⟩
  have HN:Hid (n=M.length):=hn
  have HD:Hid (Dg M):=hD
  rw[←hn]at hlen hcap ⊢
  clear ho hn hD
  go_enter Tryz.func87,Tryz.ntmps87
  go_wp2
  go_loopw [3] (fun i wr=>∃k:Nat,k≤n∧i=.int .i64 k∧w=wr∧∀j,k≤j→M.getD j 0=0) (fun i _=>(intOf i).toNat)
  case atStart=>exact⟨n,Nat.le_refl _,rfl,rfl,fun j hj=>by rw[List.getD_eq_getElem?_getD,List.getElem?_eq_none (by have:=HN.out;omega)];rfl⟩
  case round=>
   obtain⟨k,hk,rfl,rfl,hz⟩:=hrel
   have HZ:Hid (∀j,k≤j→M.getD j 0=0):=hz
   clear hz
   have fin:Hid ((k=0∨M.getD (k-1) 0≠0)→RLp (Fresh H) w (.slice (some ⟨g,0,none⟩) k cap) (digs (nv M))):=by
    intro hl
    have ht:=trim_list M HD.out k (by rw[←HN.out];exact hk) HZ.out hl
    have hlt:(M.take k).length=k:=by rw[List.length_take];have:=HN.out;omega
    have hs:=HO.out.slTake k (by rw[←HN.out];exact hk)
    rw[←ht]
    exact⟨some ⟨g,0,none⟩,cap,by rw[hlt],fun h=>by simp at h,by rw[hlt];exact hs,fun b off _ e=>by cases e;exact HG.out⟩
   rcases k with _|k
   ·have hf:=fin.out (.inl rfl)
    have HF:Hid (RLp (Fresh H) w (.slice (some ⟨g,0,none⟩) 0 cap) (digs (nv M))):=hf
    clear hf fin
    go_wp2
    go_ret
    exact⟨⟨_,rfl,HF.out⟩,rfl⟩
   ·have hc:=HO.out.cell k (by rw[←HN.out];omega)
    have z1:IntKind.i64.wrap (((k+1:Nat):Int)-1)=(k:Int):=by rw[wrap_i64];omega
    have z2:((k+1:Nat):Int)-1=(k:Int):=by omega
    have z3:(0:Int)<((k+1:Nat):Int):=by omega
    have z4:(k:Int)<(n:Int):=by omega
    by_cases hd:M.getD k 0=0
    ·rw[hd]at hc
     clear fin
     go_wp2
     go_roundw
     case rel=>exact⟨k,by omega,by go_num,by first|rfl|trivial,fun j hj=>by
      rcases Nat.lt_or_ge k j with h|h
      ·exact HZ.out j h
      ·rw[show j=k by omega];exact hd⟩
     case measure=>simp[intOf]<;>omega
    ·have hf:=fin.out (.inr (by rw[Nat.add_sub_cancel];exact hd))
     have HF:Hid (RLp (Fresh H) w (.slice (some ⟨g,0,none⟩) (k+1) cap) (digs (nv M))):=hf
     clear hf fin
     generalize M.getD k 0=d at *
     go_wp2
     go_ret
     exact⟨⟨_,rfl,HF.out⟩,rfl⟩
def lowz (v:Nat):Int:=if v=0 then -1 else (tzn v:Int)
theorem natLow_any (w:World)(v:Value)(M:List Int)(hM:RL w v M)(hD:Dg M)(hlen:M.length<100000000):Calls Tryz.prog 84 #[v] w fun e w'=>e=.returned (.int .i64 (lowz (nv M)))∧w=w':=by
 obtain⟨ao,c,rfl,-,hat⟩:=hM.at
 have HA:Hid (∀i,i<M.length→∃b off,ao=some ⟨b,off,none⟩∧w.cell? ⟨b,off+i,none⟩=some (.int .i64 (M.getD i 0))):=(hat w (Kept.refl w)).2
 have HD:Hid (Dg M):=hD
 have HL:Hid ((∀i,M.getD i 0=0)→lowz (nv M)=-1):=fun h=>by rw[lowz,if_pos ((nv_zero M hD).2 h)]
 have HT:Hid (∀k v t:Nat,k<M.length→(∀j,j<k→M.getD j 0=0)→t<30→v%2=1→(M.getD k 0).toNat=v*2^t→lowz (nv M)=30*(k:Int)+(t:Int)):=by
  intro k v t hk hz ht hv hd
  have:=low_math M hD k hk hz v t ht hv hd
  have hne:¬nv M=0:=by
   intro h0
   have h1:=(nv_zero M hD).1 h0 k
   rw[h1]at hd
   have:=Nat.two_pow_pos t
   have:0<v*2^t:=Nat.mul_pos (by omega) this
   simp at hd
   omega
  rw[lowz,if_neg hne,this]
  omega
 have HZ:Hid (∀j,M.length≤j→M.getD j 0=0):=fun j hj=>by rw[List.getD_eq_getElem?_getD,List.getElem?_eq_none hj];rfl
 generalize lowz (nv M)=R at *
 generalize M.length=n at *
 clear hM hat hD
 go_enter Tryz.func84,Tryz.ntmps84
 go_wp2
 go_loopw [3] (fun i wr=>∃k:Nat,k≤n∧i=.int .i64 k∧w=wr∧∀j,j<k→M.getD j 0=0) (fun i _=>n-(intOf i).toNat)
 case atStart=>exact⟨0,Nat.zero_le _,rfl,rfl,fun j hj=>by omega⟩
 case round=>
  obtain⟨k,hk,rfl,rfl,hz⟩:=hrel
  have Hz:Hid (∀j,j<k→M.getD j 0=0):=hz
  clear hz
  by_cases hkn:k<n
  ·obtain⟨b,off,rfl,hc⟩:=HA.out k hkn
   have hd:=HD.out.getD k
   by_cases h0:M.getD k 0=0
   ·rw[h0]at hc
    go_wp2
    go_roundw
    case rel=>exact⟨k+1,by omega,by go_num,by first|rfl|trivial,fun j hj=>by
     rcases Nat.lt_or_ge j k with g|g
     ·exact Hz.out j g
     ·rw[show j=k by omega];exact h0⟩
    case measure=>simp[intOf]<;>omega
   ·have HT2:Hid (∀v t:Nat,t<30→v%2=1→(M.getD k 0).toNat=v*2^t→R=30*(k:Int)+(t:Int)):=fun v t=>HT.out k v t hkn Hz.out
    have z1:IntKind.i64.wrap (30*(k:Int))=30*(k:Int):=by rw[wrap_i64];omega
    generalize M.getD k 0=d at *
    clear HT HA HD HL HZ Hz
    go_wp2
    go_loopw [4,5] (fun kv vv wr=>∃(t x:Nat),kv=.int .i64 (30*(k:Int)+(t:Int))∧vv=.int .i64 (x:Int)∧0<x∧x<1073741824∧t<30∧x*2^t=d.toNat∧w=wr) (fun _ vv _=>(intOf vv).toNat)
    case atStart=>exact⟨0,d.toNat,by simp,by rw[Int.toNat_of_nonneg hd.1],by omega,by omega,by omega,by simp,rfl⟩
    case round=>
     obtain⟨t,x,rfl,rfl,hx0,hx1,ht,he,rfl⟩:=hrel
     have y1:((x:Int)).tmod 2=((x%2:Nat):Int):=by rw[Int.tmod_eq_emod_of_nonneg (by omega)];omega
     have y2:((x:Int)).tdiv 2=((x/2:Nat):Int):=by rw[Int.tdiv_eq_ediv_of_nonneg (by omega)];omega
     have y3:IntKind.i64.wrap (30*(k:Int)+(t:Int)+1)=30*(k:Int)+((t+1:Nat):Int):=by rw[wrap_i64];omega
     have HE:Hid (x*2^t=d.toNat):=he
     by_cases hodd:x%2=1
     ·have hR:=HT2.out x t ht hodd he.symm
      subst hR
      rw[hodd]at y1
      clear he
      go_wp2
      go_ret
      exact⟨rfl,rfl⟩
     ·have hev:x%2=0:=by omega
      rw[hev]at y1
      have ht2:t+1<30:=by
       rcases Nat.lt_or_ge (t+1) 30 with g|g
       ·exact g
       ·exfalso
        have e29:t=29:=by omega
        subst e29
        have:2≤x:=by omega
        have:2*2^29≤x*2^29:=Nat.mul_le_mul_right _ this
        omega
      have he2:x/2*2^(t+1)=d.toNat:=by
       rw[←he,Nat.pow_succ,Nat.mul_comm (2^t),←Nat.mul_assoc]
       congr 1
       omega
      have HE2:Hid (x/2*2^(t+1)=d.toNat):=he2
      clear he he2 HE
      go_wp2
      go_roundw
      case rel=>exact⟨t+1,x/2,by go_num,by go_num,by omega,by omega,ht2,HE2.out,by first|rfl|trivial⟩
      case measure=>simp[intOf]<;>omega
  ·obtain rfl:k=n:=by omega
   have hR:=HL.out (fun i=>by
    rcases Nat.lt_or_ge i k with g|g
    ·exact Hz.out i g
    ·exact HZ.out i g)
   subst hR
   go_wp2
   go_ret
   exact⟨rfl,rfl⟩
end Go.Proofs.YtnniljhdcplkgaaGreatDoor
