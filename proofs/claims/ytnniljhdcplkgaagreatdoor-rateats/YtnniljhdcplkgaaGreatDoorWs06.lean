/-  -/
import Derived.Test.YtnniljhdcplkgaaGreatDoorWs05
import Derived.Test.YtnniljhdcplkgaaGreatDoorWs04
namespace Go.Proofs.YtnniljhdcplkgaaGreatDoor
open Go.ChangeShapes Go.WideShapes Go.ChangeAt Go.RowKit
set_option maxHeartbeats 16000000
set_option maxRecDepth 100000
set_option linter.unusedVariables false
def gaveUp:List PanicEntry:=[{ v:=.iface 9 (.string { data:=#[97,32,110,117,109,98,101,114,32,116,111,111,32,108,111,110,103] }),recovered:=false }]
theorem fit_yes (l x:Int)(h1:l≤60000)(h2:-1048576≤x)(h3:x≤1048576)(w:World):Calls Tryz.prog 113 #[.int .i64 l,.int .i64 x] w fun e w'=>e=.returned (.tuple #[])∧w=w':=by
 go_enter Tryz.func113,Tryz.ntmps113
 go_wp2
 go_end0
 exact⟨rfl,rfl⟩
theorem fit_no (l x:Int)(h:60000<l∨x< -1048576∨1048576<x)(w:World):Calls Tryz.prog 113 #[.int .i64 l,.int .i64 x] w fun e w'=>e=.panicked gaveUp∧w=w':=by
 rcases(show 60000<l∨(l≤60000∧x< -1048576)∨(l≤60000∧-1048576≤x∧1048576<x) by omega)with h|⟨h1,h⟩|⟨h1,h2,h⟩
 all_goals
  go_enter Tryz.func113,Tryz.ntmps113
  go_wp2
  exact⟨rfl,rfl,rfl⟩
theorem allValid_1 (w:World)(b cap:Nat)(n1:Bool)(a1:Option Addr)(l1 p1:Nat)(e1:Int)(g1:Bool)(hb:b<w.heap.size)
  (c0:w.cell? ⟨b,0,none⟩=some (.bool n1)) (c1:w.cell? ⟨b,1,none⟩=some (.slice a1 l1 p1)) (c2:w.cell? ⟨b,2,none⟩=some (.int .i64 e1))
  (K1:Hid (∀w',Kept w w'→Calls Tryz.prog 134 #[.agg #[.bool n1,.slice a1 l1 p1,.int .i64 e1]] w' fun e w''=>e=.returned (.bool g1)∧Kept w' w'')):
  Calls Tryz.prog 124 #[.slice (some ⟨b,0,none⟩) 1 cap] w fun e w'=>e=.returned (.bool g1)∧Kept w w':=by
 have hK:=(Kept.refl w).alloc #[.bool n1,.slice a1 l1 p1,.int .i64 e1] 43
 cases g1
 ·go_enter Tryz.func124,Tryz.ntmps124
  go_wp2
  refine wp_loop_rounds 2 ?_
  rw[rounds_succ]
  go_wp2_with (first|(go_at_call 134;refine(K1.out _ (by first|exact hK|assumption)).mono ?_;rintro e w1 ⟨rfl,hk1⟩))
  go_ret
  exact⟨rfl,hK.trans hk1⟩
 ·go_enter Tryz.func124,Tryz.ntmps124
  go_wp2
  refine wp_loop_rounds 2 ?_
  rw[rounds_succ]
  go_wp2_with (first|(go_at_call 134;refine(K1.out _ (by first|exact hK|assumption)).mono ?_;rintro e w1 ⟨rfl,hk1⟩))
  rw[rounds_succ]
  go_wp2
  go_ret
  exact⟨rfl,hK.trans hk1⟩
theorem allValid_2 (w:World)(b cap:Nat)(n1 n2:Bool)(a1 a2:Option Addr)(l1 p1 l2 p2:Nat)(e1 e2:Int)(g1 g2:Bool)(hb:b<w.heap.size)
  (c0:w.cell? ⟨b,0,none⟩=some (.bool n1)) (c1:w.cell? ⟨b,1,none⟩=some (.slice a1 l1 p1)) (c2:w.cell? ⟨b,2,none⟩=some (.int .i64 e1))
  (c3:w.cell? ⟨b,3,none⟩=some (.bool n2)) (c4:w.cell? ⟨b,4,none⟩=some (.slice a2 l2 p2)) (c5:w.cell? ⟨b,5,none⟩=some (.int .i64 e2))
  (K1:Hid (∀w',Kept w w'→Calls Tryz.prog 134 #[.agg #[.bool n1,.slice a1 l1 p1,.int .i64 e1]] w' fun e w''=>e=.returned (.bool g1)∧Kept w' w''))
  (K2:Hid (∀w',Kept w w'→Calls Tryz.prog 134 #[.agg #[.bool n2,.slice a2 l2 p2,.int .i64 e2]] w' fun e w''=>e=.returned (.bool g2)∧Kept w' w'')):
  Calls Tryz.prog 124 #[.slice (some ⟨b,0,none⟩) 2 cap] w fun e w'=>e=.returned (.bool (g1&&g2))∧Kept w w':=by
 have hK:=(Kept.refl w).alloc #[.bool n1,.slice a1 l1 p1,.int .i64 e1] 43
 have C3:Hid (∀w',Kept w w'→w'.cell? ⟨b,3,none⟩=some (.bool n2)):=fun w' k=>(k.below.cell (p:=⟨b,3,none⟩) hb).trans c3
 have C4:Hid (∀w',Kept w w'→w'.cell? ⟨b,4,none⟩=some (.slice a2 l2 p2)):=fun w' k=>(k.below.cell (p:=⟨b,4,none⟩) hb).trans c4
 have C5:Hid (∀w',Kept w w'→w'.cell? ⟨b,5,none⟩=some (.int .i64 e2)):=fun w' k=>(k.below.cell (p:=⟨b,5,none⟩) hb).trans c5
 clear c3 c4 c5
 cases g1
 ·rw[Bool.false_and]
  go_enter Tryz.func124,Tryz.ntmps124
  go_wp2
  refine wp_loop_rounds 3 ?_
  rw[rounds_succ]
  go_wp2_with (first|(go_at_call 134;refine(K1.out _ (by first|exact hK|assumption)).mono ?_;rintro e w1 ⟨rfl,hk1⟩))
  go_ret
  exact⟨rfl,hK.trans hk1⟩
 ·rw[Bool.true_and]
  cases g2
  ·go_enter Tryz.func124,Tryz.ntmps124
   go_wp2
   refine wp_loop_rounds 3 ?_
   rw[rounds_succ]
   go_wp2_with (first|(go_at_call 134;refine(K1.out _ (by first|exact hK|assumption)).mono ?_;rintro e w1 ⟨rfl,hk1⟩))
   have hk2:=hK.trans hk1
   have d3:=C3.out _ hk2
   have d4:=C4.out _ hk2
   have d5:=C5.out _ hk2
   have hk3:=hk2.alloc #[.bool n2,.slice a2 l2 p2,.int .i64 e2] 43
   clear hk1 hk2 c0 c1 c2 hK
   rw[rounds_succ]
   go_wp2_with (first|(go_at_call 134;refine(K2.out _ (by first|exact hk3|assumption)).mono ?_;rintro e w1 ⟨rfl,hk4⟩))
   go_ret
   exact⟨rfl,hk3.trans hk4⟩
  ·go_enter Tryz.func124,Tryz.ntmps124
   go_wp2
   refine wp_loop_rounds 3 ?_
   rw[rounds_succ]
   go_wp2_with (first|(go_at_call 134;refine(K1.out _ (by first|exact hK|assumption)).mono ?_;rintro e w1 ⟨rfl,hk1⟩))
   have hk2:=hK.trans hk1
   have d3:=C3.out _ hk2
   have d4:=C4.out _ hk2
   have d5:=C5.out _ hk2
   have hk3:=hk2.alloc #[.bool n2,.slice a2 l2 p2,.int .i64 e2] 43
   clear hk1 hk2 c0 c1 c2 hK
   rw[rounds_succ]
   go_wp2_with (first|(go_at_call 134;refine(K2.out _ (by first|exact hk3|assumption)).mono ?_;rintro e w1 ⟨rfl,hk4⟩))
   rw[rounds_succ]
   go_wp2
   go_ret
   exact⟨rfl,hk3.trans hk4⟩
theorem u64_mask30 (n:Int)(h0:0≤n)(h1:n≤18446744073709551615):bits .and .u64 n 1073741823=n%1073741824:=by
 rw[u64_and n 1073741823 h0 (by omega) (by omega) (by omega),show(1073741823:Int).toNat=2^30-1 by rfl,Nat.and_two_pow_sub_one_eq_mod]
 omega
theorem digitsOf_any (n:Int)(h0:0≤n)(h1:n≤18446744073709551615)(w:World):Calls Tryz.prog 75 #[.int .u64 n] w fun e w'=>e=.returned (.slice (some ⟨w.heap.size,0,none⟩) 3 3)∧w'=w.alloc (.cells #[.int .i64 (n%1073741824),.int .i64 (n/1073741824%1073741824),.int .i64 (n/1152921504606846976)] 3):=by
 have e1:=u64_mask30 n h0 h1
 have e2:=u64_mask30 (n/1073741824) (by omega) (by omega)
 have e3:wrap64 (n%1073741824)=n%1073741824:=by unfold wrap64;omega
 have e4:wrap64 (n/1073741824%1073741824)=n/1073741824%1073741824:=by unfold wrap64;omega
 go_enter Tryz.func75,Tryz.ntmps75
 go_wp2
 go_ret
 exact⟨rfl,rfl⟩
theorem tzn_digit (L:List Int)(h:Dg L)(i:Nat)(hz:∀j,j<i→L.getD j 0=0)(hi:L.getD i 0≠0):tzn (nv L)=30*i+Lib.ctz 64 (L.getD i 0).toNat:=by
 induction i generalizing L with
 | zero=>
  have hd:=h.getD 0
  obtain⟨a1,a2,a3,a4⟩:=odd_part (L.getD 0 0).toNat (by omega) (by omega)
  have h1:=nv_getD L h 0
  rw[Nat.mul_zero,Nat.pow_zero,Nat.div_one]at h1
  generalize Lib.ctz 64 (L.getD 0 0).toNat=k at *
  generalize (L.getD 0 0).toNat/2^k=o at *
  generalize (L.getD 0 0).toNat=d at *
  have hk30:k<30:=by
   by_cases hk:k<30
   ·exact hk
   ·have:2^30≤2^k:=Nat.pow_le_pow_right (by decide) (by omega)
    have:1*2^30≤o*2^k:=Nat.mul_le_mul (by omega) this
    omega
  have e:nv L=(o+2^(30-k)*(nv L/1073741824))*2^k:=by
   rw[Nat.add_mul,←a2,Nat.mul_right_comm,←Nat.pow_add,show 30-k+k=30 by omega]
   omega
  rw[e,tzn_mul]
  ·omega
  ·obtain⟨m,hm⟩:∃m,30-k=m+1:=⟨30-k-1,by omega⟩
   rw[hm,Nat.pow_succ,Nat.mul_right_comm,Nat.add_mul_mod_self_right]
   exact a3
 | succ i ih=>
  cases L with
  |nil=>simp at hi
  | cons d L=>
   have h0:=hz 0 (by omega)
   simp at h0
   subst h0
   have:=ih L h.tail (fun j hj=>by have:=hz (j+1) (by omega);simpa using this) (by simpa using hi)
   have hne:nv L≠0:=fun h0=>by
    have:=(nv_zero L h.tail).1 h0 i
    simp at hi
    simp at this
    exact hi this
   obtain⟨o,ho,e⟩:=tzn_spec _ hne
   rw[show nv (0::L)=o*2^(30+tzn (nv L)) by
    rw[nv,Nat.pow_add,←Nat.mul_assoc,Nat.mul_comm o,Nat.mul_assoc,←e];simp,tzn_mul _ _ ho,this]
   simp
   omega
theorem trailing_some (L:List Int)(hL:Dg L)(hlen:L.length<100000000)(m:Nat)(hm:m<L.length)(hz:∀j,j<m→L.getD j 0=0)(hne:L.getD m 0≠0)(b off cap:Nat)(w:World)(hr:Reads w b off L)(hT:Tab w):Calls Tryz.prog 111 #[.slice (some ⟨b,off,none⟩) L.length cap] w fun e w'=>e=.returned (.int .i64 ((tzn (nv L):Nat):Int))∧w=w':=by
 rw[tzn_digit L hL m hz hne]
 have hd:=hL.getD m
 have hcm:=hr m hm
 obtain⟨d,hdd⟩:∃d,d=L.getD m 0:=⟨_,rfl⟩
 rw[←hdd]at hd hne hcm ⊢
 have K:Hid (Calls Tryz.prog 136 #[.int .u64 d] w fun e w'=>e=.returned (.int .i64 ((Lib.ctz 64 d.toNat:Nat):Int))∧w=w'):=kz_any d (by omega) (by omega) w hT
 have hk64:Lib.ctz 64 d.toNat<64:=(odd_part d.toNat (by omega) (by omega)).1
 generalize Lib.ctz 64 d.toNat=c at *
 have HZ:Hid (∀j,j<m→w.cell? ⟨b,off+j,none⟩=some (.int .i64 0)):=fun j hj=>by have:=hr j (by omega);rw[hz j hj]at this;exact this
 generalize L.length=n at *
 clear hr hz hdd hL hT
 have e1:IntKind.u64.wrap d=d:=by rw[IntKind.wrap_u64];omega
 go_enter Tryz.func111,Tryz.ntmps111
 go_wp2
 go_loop [3] (fun i=>∃k:Nat,k≤m∧i=.int .i64 k) (fun i=>n-(intOf i).toNat)
 case atStart=>exact⟨0,Nat.zero_le _,rfl⟩
 case round=>
  obtain⟨k,hk,rfl⟩:=hrel
  by_cases hkm:k<m
  ·have hc:=HZ.out k hkm
   go_wp2
   go_round
   case rel=>exact⟨k+1,by omega,by go_num⟩
   case measure=>simp[intOf];omega
  ·obtain rfl:k=m:=by omega
   have hne2:(d==0)=false:=by simp[hne]
   go_wp2_with (first|(go_at_call 136;refine K.out.mono ?_;rintro e w1 ⟨rfl,rfl⟩))
   rw[show((30*k+c:Nat):Int)=(k:Int)*30+(c:Int) by omega]
   go_ret
   exact⟨rfl,rfl⟩
end Go.Proofs.YtnniljhdcplkgaaGreatDoor
namespace Go.Proofs.YtnniljhdcplkgaaGreatDoor
open Go.ChangeShapes Go.WideShapes Go.ChangeAt Go.RowKit
set_option maxHeartbeats 16000000
set_option maxRecDepth 100000
set_option linter.unusedVariables false
def Own (w:World)(g cap:Nat)(L:List Int):Prop:=∃cur,w.heap[g]?=some (.cells cur 3 (0,0))∧L.length≤cap∧cap≤maxLen∧cur.size=cap∧cur.toList.take L.length=L.map (Value.int .i64)
structure Grw (g:Nat) (w w':World):Prop where
 grown:w.grownBy w' (some g)
 frozen:∀a,w'.frozen? a=w.frozen? a
theorem Grw.refl (g:Nat)(w:World):Grw g w w:=⟨World.grownBy.refl _ _,fun _=>rfl⟩
theorem Grw.trans {g:Nat}{a b c:World}(h:Grw g a b)(k:Grw g b c):Grw g a c:=
 ⟨⟨k.grown.os.trans h.grown.os,k.grown.tape.trans h.grown.tape,k.grown.output.trans h.grown.output,Nat.le_trans h.grown.size k.grown.size,fun i hi hne=>(k.grown.block i (Nat.lt_of_lt_of_le hi h.grown.size) hne).trans (h.grown.block i hi hne)⟩,fun x=>(k.frozen x).trans (h.frozen x)⟩
theorem Kept.toGrw {a b:World}(g:Nat)(h:Kept a b):Grw g a b:=⟨⟨h.below.os,h.below.tape,h.below.output,h.below.size,fun i hi _=>h.below.block i hi⟩,h.frozen⟩
theorem Kept.grw {a b c:World}{g:Nat}(h:Kept a b)(hg:a.heap.size≤g)(k:Grw g b c):Kept a c:=
 ⟨h.below.grown k.grown h.below.size (fun i e=>by cases e;exact hg),fun x=>(k.frozen x).trans (h.frozen x)⟩
theorem Grw.setCell {g:Nat}{a b:World}(h:Grw g a b)(j:Nat)(u:Value):Grw g a (b.setCell ⟨g,j,none⟩ u):=
 ⟨⟨h.grown.os,h.grown.tape,h.grown.output,by simpa using h.grown.size,fun i hi hne=>(Below.heap_setCell b ⟨g,j,none⟩ u i (fun e=>hne (by rw[e]))).trans (h.grown.block i hi hne)⟩,fun x=>(World.frozen?_setCell _ _ _ _).trans (h.frozen x)⟩
theorem Own.lt {w:World}{g cap:Nat}{L:List Int}(h:Own w g cap L):g<w.heap.size:=by
 obtain⟨cur,hg,-⟩:=h
 exact lt_of_block hg
theorem Own.kept {w w':World}{g cap:Nat}{L:List Int}(h:Own w g cap L)(k:Kept w w'):Own w' g cap L:=by
 have hl:=h.lt
 obtain⟨cur,hg,r⟩:=h
 exact⟨cur,(k.below.block g hl).trans hg,r⟩
theorem Own.grw {w w':World}{g g' cap:Nat}{L:List Int}(h:Own w g cap L)(k:Grw g' w w')(hne:g≠g'):Own w' g cap L:=by
 have hl:=h.lt
 obtain⟨cur,hg,r⟩:=h
 exact⟨cur,(k.grown.block g hl (by simpa using hne)).trans hg,r⟩
theorem Own.cell {w:World}{g cap:Nat}{L:List Int}(h:Own w g cap L)(i:Nat)(hi:i<L.length):w.cell? ⟨g,i,none⟩=some (.int .i64 (L.getD i 0)):=by
 obtain⟨cur,hg,h1,h2,h3,h4⟩:=h
 rw[cell_of_row w g i cur 3 (0,0) hg]
 have:(cur.toList.take L.length)[i]?=(L.map (Value.int .i64))[i]?:=by rw[h4]
 rw[List.getElem?_take,if_pos hi,List.getElem?_map,List.getElem?_eq_getElem hi]at this
 rw[List.getD_eq_getElem?_getD,List.getElem?_eq_getElem hi]
 simpa using this
theorem Own.reads {w:World}{g cap:Nat}{L:List Int}(h:Own w g cap L):Reads w g 0 L:=fun i hi=>by rw[Nat.zero_add];exact h.cell i hi
theorem Own.free {w:World}{g cap:Nat}{L:List Int}(h:Own w g cap L)(i:Nat):w.frozen? ⟨g,i,none⟩=false:=by
 obtain⟨cur,hg,-⟩:=h
 exact frozen_of_row w g i cur 3 hg
theorem Own.set {w:World}{g cap:Nat}{L:List Int}(h:Own w g cap L)(i:Nat)(d:Int):Own (w.setCell ⟨g,i,none⟩ (.int .i64 d)) g cap (L.set i d):=by
 obtain⟨cur,hg,h1,h2,h3,h4⟩:=h
 refine⟨cur.setIfInBounds i (.int .i64 d),heap_setCell_same w g i cur 3 _ hg,by simpa using h1,h2,by simpa using h3,?_⟩
 rw[Array.toList_setIfInBounds,List.length_set,List.take_set,h4,List.map_set]
theorem Own.take {w:World}{g cap:Nat}{L:List Int}(h:Own w g cap L)(n:Nat)(hn:n≤L.length):Own w g cap (L.take n):=by
 obtain⟨cur,hg,h1,h2,h3,h4⟩:=h
 refine⟨cur,hg,by simp;omega,h2,h3,?_⟩
 rw[List.length_take,Nat.min_eq_left hn,List.map_take,←h4,List.take_take,Nat.min_eq_left hn]
theorem Own.sl {w:World}{g cap:Nat}{L:List Int}(h:Own w g cap L):Sl w (.slice (some ⟨g,0,none⟩) L.length cap) L:=by
 have hr:=h.reads
 have hl:=h.lt
 obtain⟨cur,hg,h1,h2,h3,h4⟩:=h
 exact⟨_,_,rfl,h1,h2,fun _=>⟨g,0,rfl,hl,hr⟩⟩
theorem Own.slTake {w:World}{g cap:Nat}{L:List Int}(h:Own w g cap L)(n:Nat)(hn:n≤L.length):Sl w (.slice (some ⟨g,0,none⟩) n cap) (L.take n):=by
 have:=(h.take n hn).sl
 rw[List.length_take,Nat.min_eq_left hn]at this
 exact this
abbrev zeroNum:Value:=.agg #[.bool false,.slice none 0 0,.int .i64 0]
theorem form_zero (neg:Bool)(L:List Int)(hlen:L.length<100000000)(hz:∀j,L.getD j 0=0)(g cap:Nat)(x:Int)(w:World)(h:Own w g cap L):Calls Tryz.prog 74 #[.bool neg,.slice (some ⟨g,0,none⟩) L.length cap,.int .i64 x] w fun e w'=>e=.returned zeroNum∧Kept w w':=by
 have hK:=(Kept.refl w).alloc #[.bool false,.slice none 0 0,.int .i64 0] 43
 have HC:Hid (∀j,j<L.length→(w.alloc (.cells #[.bool false,.slice none 0 0,.int .i64 0] 43)).cell? ⟨g,j,none⟩=some (.int .i64 0)):=fun j hj=>by
  have:=(h.kept hK).cell j hj
  rw[hz j]at this
  exact this
 generalize L.length=n at *
 clear h hz
 go_enter Tryz.func74,Tryz.ntmps74
 go_wp2
 go_loop [7] (fun i=>∃k:Nat,k≤n∧i=.int .i64 k) (fun i=>(intOf i).toNat)
 case atStart=>exact⟨n,Nat.le_refl _,rfl⟩
 case round=>
  obtain⟨k,hk,rfl⟩:=hrel
  rcases k with _|k
  ·go_wp2
   exact bodyPost_ret (v:=zeroNum) (by simp[results,Tryz.results74,go_sem]) rfl ⟨rfl,hK⟩
  ·have hc:=HC.out k (by omega)
   go_wp2
   go_round
   case rel=>exact⟨k,by omega,by go_num⟩
   case measure=>simp[intOf]
theorem Grw.setNew {g:Nat}{a b:World}(h:Grw g a b){p:Addr}(hp:a.heap.size≤p.block)(u:Value):Grw g a (b.setCell p u):=
 ⟨⟨h.grown.os,h.grown.tape,h.grown.output,by simpa using h.grown.size,fun i hi hne=>(Below.heap_setCell b p u i (fun e=>by omega)).trans (h.grown.block i hi hne)⟩,fun x=>(World.frozen?_setCell _ _ _ _).trans (h.frozen x)⟩
theorem Own.setOther {w:World}{g cap:Nat}{L:List Int}(h:Own w g cap L){p:Addr}(hp:g≠p.block)(u:Value):Own (w.setCell p u) g cap L:=by
 obtain⟨cur,hg,r⟩:=h
 exact⟨cur,(Below.heap_setCell w p u g hp).trans hg,r⟩
theorem grw_new {g:Nat}{w wr:World}{o:Obj}(h:Grw g (w.alloc o) wr)(hne:g≠w.heap.size)(j:Nat):wr.cell? ⟨w.heap.size,j,none⟩=(w.alloc o).cell? ⟨w.heap.size,j,none⟩∧wr.frozen? ⟨w.heap.size,j,none⟩=(w.alloc o).frozen? ⟨w.heap.size,j,none⟩:=
 have hb:=h.grown.block w.heap.size (by simp) (by simpa using fun e=>hne e.symm)
 ⟨World.cell?_of_block (a:=⟨w.heap.size,j,none⟩) hb,World.frozen?_of_block (a:=⟨w.heap.size,j,none⟩) hb⟩
theorem dig_take (L M:List Int)(k c q:Nat)(hM:k<M.length)(hz:∀j,k<j→L.getD j 0=0)(hh:∀j,c≤j→M.getD j 0=L.getD j 0)(hq:c≤q):dig (M.take (k+1)) (q:Int)=dig L (q:Int):=by
 unfold dig
 rw[if_pos (by omega),if_pos (by omega),Int.toNat_natCast,←hh q hq]
 by_cases h:q<k+1
 ·rw[List.getD_eq_getElem?_getD,List.getD_eq_getElem?_getD,List.getElem?_take,if_pos h]
 ·rw[hh q hq,hz q (by omega),List.getD_eq_getElem?_getD,List.getElem?_eq_none (by simp;omega)]
  rfl
theorem pcq_take (L M:List Int)(k c q s:Nat)(hM:k<M.length)(hz:∀j,k<j→L.getD j 0=0)(hh:∀j,c≤j→M.getD j 0=L.getD j 0)(hq:c≤q):pcq (M.take (k+1)) (q:Int) s=pcq L (q:Int) s:=by
 unfold pcq
 rw[dig_take L M k c q hM hz hh hq,show((q:Int)+1)=((q+1:Nat):Int) by omega,dig_take L M k c (q+1) hM hz hh (by omega)]
theorem getD_set (M:List Int)(c j:Nat)(d:Int)(hc:c<M.length):(M.set c d).getD j 0=if c=j then d else M.getD j 0:=by
 rw[List.getD_eq_getElem?_getD,List.getD_eq_getElem?_getD,List.getElem?_set]
 by_cases h:c=j
 ·subst h;simp[hc]
 ·simp[h]
theorem form_main (neg:Bool)(L:List Int)(hlen:L.length<100000000)(m:Nat)(hm:m<L.length)(hz:∀j,m<j→L.getD j 0=0)(hne:L.getD m 0≠0)(g cap:Nat)(x y:Int)(Z BL C:Nat)(lg:Int)(hlg:(BL:Int)-(Z:Int)=lg)(hC:(lg+30-1)/30=(C:Int))(hlg0:0<lg)(hlg1:lg≤60000)(hy0:wrap64 (x+(Z:Int))=y)(hy1:-1048576≤y)(hy2:y≤1048576)(hZ:Z<2000000000)(hBL:BL<3000000000)(hCm:C≤m+1)(w:World)(h:Own w g cap L)
  (KT:Hid (Calls Tryz.prog 111 #[.slice (some ⟨g,0,none⟩) L.length cap] (w.alloc (.cells #[.bool false,.slice none 0 0,.int .i64 0] 43)) fun e w'=>e=.returned (.int .i64 (Z:Int))∧(w.alloc (.cells #[.bool false,.slice none 0 0,.int .i64 0] 43))=w'))
  (KL:Hid (Calls Tryz.prog 112 #[.slice (some ⟨g,0,none⟩) (m+1) cap] (w.alloc (.cells #[.bool false,.slice none 0 0,.int .i64 0] 43)) fun e w'=>e=.returned (.int .i64 (BL:Int))∧(w.alloc (.cells #[.bool false,.slice none 0 0,.int .i64 0] 43))=w')):Calls Tryz.prog 74 #[.bool neg,.slice (some ⟨g,0,none⟩) L.length cap,.int .i64 x] w fun e w'=>∃M,e=.returned (.agg #[.bool neg,.slice (some ⟨g,0,none⟩) C cap,.int .i64 y])∧Own w' g cap M∧C≤M.length∧(∀j,j<C→M.getD j 0=pcq L ((Z/30+j:Nat):Int) (Z%30))∧Grw g w w':=by
 have hK:=(Kept.refl w).alloc #[.bool false,.slice none 0 0,.int .i64 0] 43
 have HO:Hid (Own (w.alloc (.cells #[.bool false,.slice none 0 0,.int .i64 0] 43)) g cap L):=h.kept hK
 have HC:Hid (∀j,j<L.length→(w.alloc (.cells #[.bool false,.slice none 0 0,.int .i64 0] 43)).cell? ⟨g,j,none⟩=some (.int .i64 (L.getD j 0))):=fun j hj=>(h.kept hK).cell j hj
 have hgl:=h.lt
 have hcap:L.length≤cap:=by obtain⟨_,_,h1,_⟩:=h;exact h1
 obtain⟨n,hn⟩:∃n,n=L.length:=⟨_,rfl⟩
 have HN:Hid (n=L.length):=hn
 rw[←hn]at hlen hm HC KT hcap ⊢
 have HZ:Hid (∀j,m<j→L.getD j 0=0):=hz
 clear h hz hn
 go_enter Tryz.func74,Tryz.ntmps74
 go_wp2
 go_loop [7] (fun i=>∃k:Nat,k≤n∧m<k∧i=.int .i64 k) (fun i=>(intOf i).toNat)
 case atStart=>exact⟨n,Nat.le_refl _,hm,rfl⟩
 case round=>
  obtain⟨k,hk,hmk,rfl⟩:=hrel
  obtain⟨k,rfl⟩:∃j,k=j+1:=⟨k-1,by omega⟩
  have hc:=HC.out k (by omega)
  by_cases hkm:m<k
  ·rw[HZ.out k hkm]at hc
   go_wp2
   go_round
   case rel=>exact⟨k,by omega,hkm,by go_num⟩
   case measure=>simp[intOf]
  ·obtain rfl:k=m:=by omega
   have hne2:(L.getD k 0==0)=false:=by simpa using hne
   generalize L.getD k 0=d at *
   go_wp2_with (first|(go_at_call 111;refine KT.out.mono ?_;rintro e w1 ⟨rfl,rfl⟩)|(go_at_call 112;refine KL.out.mono ?_;rintro e w1 ⟨rfl,rfl⟩)|(go_at_call 113;refine(fit_yes _ _ (by omega) (by omega) (by omega) _).mono ?_;rintro e w1 ⟨rfl,rfl⟩))
   rw[hC]
   have hC2:C≤2001:=by omega
   clear hC
   go_loopw [47] (fun i wr=>∃(c:Nat) (M:List Int),c≤C∧i=.int .i64 c∧Own wr g cap M∧M.length=n∧(∀j,j<c→M.getD j 0=pcq L ((Z/30+j:Nat):Int) (Z%30))∧(∀j,c≤j→M.getD j 0=L.getD j 0)∧Grw g (w.alloc (.cells #[.bool false,.slice none 0 0,.int .i64 0] 43)) wr) (fun i _=>C-(intOf i).toNat)
   case atStart=>exact⟨0,L,Nat.zero_le _,rfl,HO.out,HN.out.symm,fun j h=>by omega,fun j _=>rfl,Grw.refl _ _⟩
   case round=>
    obtain⟨c,M,hc0,rfl,hO,hMl,hlo,hhi,hG⟩:=hrel
    have HG:Hid (Grw g (w.alloc (.cells #[.bool false,.slice none 0 0,.int .i64 0] 43)) wr):=hG
    have HL:Hid (∀j,j<c→M.getD j 0=pcq L ((Z/30+j:Nat):Int) (Z%30)):=hlo
    have HH:Hid (∀j,c≤j→M.getD j 0=L.getD j 0):=hhi
    have HM:Hid (M.length=n):=hMl
    by_cases hcC:c<C
    ·have KP:Hid (Calls Tryz.prog 114 #[.slice (some ⟨g,0,none⟩) (k+1) cap,.int .i64 ((Z:Int)+(c:Int)*30)] wr fun e w'=>e=.returned (.int .i64 (pcq L ((Z/30+c:Nat):Int) (Z%30)))∧Kept wr w'):=by
      have:=piece_at (M.take (k+1)) _ ((Z/30+c:Nat):Int) (Z%30) (by omega) (by omega) (by omega) ((Z:Int)+(c:Int)*30) (by omega) (.inl (by omega)) wr (hO.slTake (k+1) (by omega))
      rw[pcq_take L M k c (Z/30+c) (Z%30) (by omega) HZ.out hhi (by omega)]at this
      exact this
     generalize hpv:pcq L ((Z/30+c:Nat):Int) (Z%30)=pv at KP
     have HP:Hid (pcq L ((Z/30+c:Nat):Int) (Z%30)=pv):=hpv
     have HO2:Hid (Own wr g cap M):=hO
     clear hO hMl hlo hhi hG HO HC hc KT KL hK hpv
     go_wp2_with (first|(go_at_call 114;refine KP.out.mono ?_;rintro e w2 ⟨rfl,hk2⟩;have hO2:=HO2.out.kept hk2;have hcc:=hO2.cell c (by have:=HM.out;omega);have hff:=hO2.free c))
     go_roundw
     case rel=>
      have hO2:=HO2.out.kept hk2
      refine⟨c+1,M.set c pv,by omega,by go_num,hO2.set c pv,by rw[List.length_set];exact HM.out,fun j hj=>?_,fun j hj=>?_,(HG.out.trans (hk2.toGrw g)).setCell _ _⟩
      ·rw[getD_set M c j pv (by have:=HM.out;omega)]
       by_cases hcj:c=j
       ·rw[if_pos hcj,←hcj];exact HP.out.symm
       ·rw[if_neg hcj];exact HL.out j (by omega)
      ·rw[getD_set M c j pv (by have:=HM.out;omega),if_neg (by omega)]
       exact HH.out j (by omega)
     case measure=>simp[intOf];omega
    ·obtain rfl:c=C:=by omega
     have hgn:g≠w.heap.size:=by omega
     have hb0:wr.cell? ⟨w.heap.size,0,none⟩=some (.bool false):=(grw_new hG hgn 0).1.trans (by simp[go_sem])
     have hb1:wr.cell? ⟨w.heap.size,1,none⟩=some (.slice none 0 0):=(grw_new hG hgn 1).1.trans (by simp[go_sem])
     have hb2:wr.cell? ⟨w.heap.size,2,none⟩=some (.int .i64 0):=(grw_new hG hgn 2).1.trans (by simp[go_sem])
     have hf:∀o,wr.frozen? ⟨w.heap.size,o,none⟩=false:=fun o=>(grw_new hG hgn o).2.trans (by simp[go_sem])
     have HO2:Hid (Own wr g cap M):=hO
     have HK:Hid (Kept w (w.alloc (.cells #[.bool false,.slice none 0 0,.int .i64 0] 43))):=hK
     clear hO hMl hlo hhi hG HO HC hc KT KL hK
     go_wp2
     refine bodyPost_ret (v:=.agg #[.bool neg,.slice (some ⟨g,0,none⟩) c cap,.int .i64 y]) (by simp[results,Tryz.results74,go_sem,hb0,hb1,hb2]) rfl ⟨M,rfl,((HO2.out.setOther (by simpa using hgn) _).setOther (by simpa using hgn) _).setOther (by simpa using hgn) _,by have:=HM.out;omega,HL.out,?_⟩
     exact(((((HK.out.toGrw g).trans HG.out).setNew (by simp) _).setNew (by simp) _).setNew (by simp) _)
end Go.Proofs.YtnniljhdcplkgaaGreatDoor
namespace Go.Proofs.YtnniljhdcplkgaaGreatDoor
open Go.ChangeShapes Go.WideShapes Go.ChangeAt Go.RowKit
set_option maxHeartbeats 16000000
set_option maxRecDepth 100000
set_option linter.unusedVariables false
theorem form_up (neg:Bool)(L:List Int)(hlen:L.length<100000000)(m:Nat)(hm:m<L.length)(hz:∀j,m<j→L.getD j 0=0)(hne:L.getD m 0≠0)(g cap:Nat)(x y:Int)(Z BL:Nat)(lg:Int)(hlg:(BL:Int)-(Z:Int)=lg)(hy0:wrap64 (x+(Z:Int))=y)(hno:60000<lg∨y< -1048576∨1048576<y)(hZ:Z<3000000000)(hBL:BL<3000000000)(w:World)(h:Own w g cap L)
  (KT:Hid (Calls Tryz.prog 111 #[.slice (some ⟨g,0,none⟩) L.length cap] (w.alloc (.cells #[.bool false,.slice none 0 0,.int .i64 0] 43)) fun e w'=>e=.returned (.int .i64 (Z:Int))∧(w.alloc (.cells #[.bool false,.slice none 0 0,.int .i64 0] 43))=w'))
  (KL:Hid (Calls Tryz.prog 112 #[.slice (some ⟨g,0,none⟩) (m+1) cap] (w.alloc (.cells #[.bool false,.slice none 0 0,.int .i64 0] 43)) fun e w'=>e=.returned (.int .i64 (BL:Int))∧(w.alloc (.cells #[.bool false,.slice none 0 0,.int .i64 0] 43))=w')):Calls Tryz.prog 74 #[.bool neg,.slice (some ⟨g,0,none⟩) L.length cap,.int .i64 x] w fun e w'=>e=.panicked gaveUp∧Kept w w':=by
 have hK:=(Kept.refl w).alloc #[.bool false,.slice none 0 0,.int .i64 0] 43
 have HC:Hid (∀j,j<L.length→(w.alloc (.cells #[.bool false,.slice none 0 0,.int .i64 0] 43)).cell? ⟨g,j,none⟩=some (.int .i64 (L.getD j 0))):=fun j hj=>(h.kept hK).cell j hj
 have hcap:L.length≤cap:=by obtain⟨_,_,h1,_⟩:=h;exact h1
 obtain⟨n,hn⟩:∃n,n=L.length:=⟨_,rfl⟩
 have HN:Hid (n=L.length):=hn
 rw[←hn]at hlen hm HC KT hcap ⊢
 have HZ:Hid (∀j,m<j→L.getD j 0=0):=hz
 clear h hz hn
 go_enter Tryz.func74,Tryz.ntmps74
 go_wp2
 go_loop [7] (fun i=>∃k:Nat,k≤n∧m<k∧i=.int .i64 k) (fun i=>(intOf i).toNat)
 case atStart=>exact⟨n,Nat.le_refl _,hm,rfl⟩
 case round=>
  obtain⟨k,hk,hmk,rfl⟩:=hrel
  obtain⟨k,rfl⟩:∃j,k=j+1:=⟨k-1,by omega⟩
  have hc:=HC.out k (by omega)
  by_cases hkm:m<k
  ·rw[HZ.out k hkm]at hc
   go_wp2
   go_round
   case rel=>exact⟨k,by omega,hkm,by go_num⟩
   case measure=>simp[intOf]
  ·obtain rfl:k=m:=by omega
   have hne2:(L.getD k 0==0)=false:=by simpa using hne
   generalize L.getD k 0=d at *
   go_wp2_with (first|(go_at_call 111;refine KT.out.mono ?_;rintro e w1 ⟨rfl,rfl⟩)|(go_at_call 112;refine KL.out.mono ?_;rintro e w1 ⟨rfl,rfl⟩)|(go_at_call 113;refine(fit_no _ _ hno _).mono ?_;rintro e w1 ⟨rfl,rfl⟩))
   exact⟨rfl,rfl,hK⟩
def frm (neg:Bool)(v:Nat)(x:Int):Option Nm:=
 if v=0 then some ⟨false,[],0⟩else
 if bl v-tzn v≤60000∧-1048576≤wrap64 (x+(tzn v:Int))∧wrap64 (x+(tzn v:Int))≤1048576 then some ⟨neg,digs (v/2^tzn v),wrap64 (x+(tzn v:Int))⟩else none
def New (w0 w:World)(v:Value)(x:Nm):Prop:=
 (x=⟨false,[],0⟩∧v=zeroNum)∨∃g cap,v=.agg #[.bool x.neg,.slice (some ⟨g,0,none⟩) x.mag.length cap,.int .i64 x.exp]∧w0.heap.size≤g∧Own w g cap x.mag∧x.mag≠[]
def NewG (g cap:Nat)(w0 w:World)(v:Value)(x:Nm):Prop:=
 (x=⟨false,[],0⟩∧v=zeroNum)∨(v=.agg #[.bool x.neg,.slice (some ⟨g,0,none⟩) x.mag.length cap,.int .i64 x.exp]∧w0.heap.size≤g∧Own w g cap x.mag∧x.mag≠[])
theorem NewG.new {g cap:Nat}{w0 w:World}{v:Value}{x:Nm}(h:NewG g cap w0 w v x):New w0 w v x:=by
 rcases h with h|h
 ·exact .inl h
 ·exact .inr ⟨g,cap,h⟩
theorem New.numAt {w0 w:World}{v:Value}{x:Nm}(h:New w0 w v x):NumAt w v x:=by
 rcases h with ⟨rfl,rfl⟩|⟨g,cap,rfl,hg,ho,hne⟩
 ·exact⟨_,rfl,none,0,rfl,Nat.le_refl _,by simp[maxLen],fun h=>absurd rfl h⟩
 ·exact⟨_,rfl,ho.sl⟩
theorem New.kept {w0 w w':World}{v:Value}{x:Nm}(h:New w0 w v x)(k:Kept w w'):New w0 w' v x:=by
 rcases h with h|⟨g,cap,e,hg,ho,hne⟩
 ·exact .inl h
 ·exact .inr ⟨g,cap,e,hg,ho.kept k,hne⟩
theorem New.from {w0 w1 w:World}{v:Value}{x:Nm}(h:New w1 w v x)(k:Kept w0 w1):New w0 w v x:=by
 rcases h with h|⟨g,cap,e,hg,ho,hne⟩
 ·exact .inl h
 ·exact .inr ⟨g,cap,e,Nat.le_trans k.below.size hg,ho,hne⟩
theorem bl_sub (v:Nat)(hv:v≠0):bl v=bl (v/2^tzn v)+tzn v∧v/2^tzn v≠0:=by
 obtain⟨h1,h2⟩:=tzn_div v hv
 generalize v/2^tzn v=o at *
 have:bl v=bl (o*2^tzn v):=by rw[←h2]
 rw[this,bl_mul _ _ (by omega)]
 exact⟨rfl,by omega⟩
theorem digs_len (n:Nat)(h:n≠0):(digs n).length=(bl n+29)/30:=by
 have h1:=bl_pos n h
 obtain⟨k,hk⟩:∃k,(bl n+29)/30=k+1:=⟨(bl n+29)/30-1,by omega⟩
 have a:=digs_length_le n (k+1) (Nat.lt_of_lt_of_le h1.2.1 (Nat.pow_le_pow_right (by decide) (by omega)))
 have b:=digs_length_ge n k (Nat.le_trans (Nat.pow_le_pow_right (by decide) (by omega)) h1.1)
 omega
theorem top_at (L:List Int)(h:¬∀j,L.getD j 0=0):∃m,m<L.length∧(∀j,m<j→L.getD j 0=0)∧L.getD m 0≠0:=by
 induction L with
 |nil=>exact absurd (fun j=>by simp) h
 | cons d L ih=>
  by_cases hL:∀j,L.getD j 0=0
  ·refine⟨0,by simp,fun j hj=>?_,?_⟩
   ·obtain⟨i,rfl⟩:∃i,j=i+1:=⟨j-1,by omega⟩
    rw[List.getD_cons_succ];exact hL i
   ·intro h0
    apply h
    intro j
    cases j with
    |zero=>exact h0
    |succ i=>rw[List.getD_cons_succ];exact hL i
  ·obtain⟨m,h1,h2,h3⟩:=ih hL
   refine⟨m+1,by simpa using h1,fun j hj=>?_,by rw[List.getD_cons_succ];exact h3⟩
   obtain⟨i,rfl⟩:∃i,j=i+1:=⟨j-1,by omega⟩
   rw[List.getD_cons_succ];exact h2 i (by omega)
theorem low_at (L:List Int)(h:¬∀j,L.getD j 0=0):∃m,m<L.length∧(∀j,j<m→L.getD j 0=0)∧L.getD m 0≠0:=by
 induction L with
 |nil=>exact absurd (fun j=>by simp) h
 | cons d L ih=>
  by_cases hd:d=0
  ·have hL:¬∀j,L.getD j 0=0:=fun hL=>h (fun j=>by
    cases j with
    |zero=>simpa using hd
    |succ i=>rw[List.getD_cons_succ];exact hL i)
   obtain⟨m,h1,h2,h3⟩:=ih hL
   refine⟨m+1,by simpa using h1,fun j hj=>?_,by rw[List.getD_cons_succ];exact h3⟩
   cases j with
   |zero=>simpa using hd
   |succ i=>rw[List.getD_cons_succ];exact h2 i (by omega)
  ·exact⟨0,by simp,fun j hj=>by omega,by simpa using hd⟩
theorem nv_take (L:List Int)(h:Dg L)(m:Nat)(hz:∀j,m<j→L.getD j 0=0):nv (L.take (m+1))=nv L:=by
 have e:=nv_append (L.take (m+1)) (L.drop (m+1))
 rw[List.take_append_drop]at e
 have:nv (L.drop (m+1))=0:=by
  rw[nv_zero _ (fun d hd=>h d (List.mem_of_mem_drop hd))]
  intro i
  have:=hz (m+1+i) (by omega)
  rw[List.getD_eq_getElem?_getD]at this ⊢
  rw[List.getElem?_drop]
  exact this
 rw[this]at e
 omega
theorem dg_take (L:List Int)(h:Dg L)(m:Nat):Dg (L.take m):=fun d hd=>h d (List.mem_of_mem_take hd)
theorem form_ways (L:List Int)(hL:Dg L)(hlen:L.length<60000000)(g cap:Nat)(hv:nv L≠0)(w:World)(h:Own w g cap L)(hT:Tab w):
  ∃m,m<L.length∧(∀j,m<j→L.getD j 0=0)∧L.getD m 0≠0∧tzn (nv L)<2000000000∧bl (nv L)<3000000000∧bl (nv L)≤30*(m+1)∧
   Hid (Calls Tryz.prog 111 #[.slice (some ⟨g,0,none⟩) L.length cap] (w.alloc (.cells #[.bool false,.slice none 0 0,.int .i64 0] 43)) fun e w'=>e=.returned (.int .i64 (tzn (nv L):Int))∧(w.alloc (.cells #[.bool false,.slice none 0 0,.int .i64 0] 43))=w')∧
   Hid (Calls Tryz.prog 112 #[.slice (some ⟨g,0,none⟩) (m+1) cap] (w.alloc (.cells #[.bool false,.slice none 0 0,.int .i64 0] 43)) fun e w'=>e=.returned (.int .i64 (bl (nv L):Int))∧(w.alloc (.cells #[.bool false,.slice none 0 0,.int .i64 0] 43))=w'):=by
 have hnz:¬∀j,L.getD j 0=0:=fun hz=>hv ((nv_zero L hL).2 hz)
 obtain⟨m,hm,hz,hne⟩:=top_at L hnz
 obtain⟨t,ht,htz,htn⟩:=low_at L hnz
 have hK:=(Kept.refl w).alloc #[.bool false,.slice none 0 0,.int .i64 0] 43
 have hO:=h.kept hK
 have hb:=bl_le _ _ (nv_lt _ (dg_take L hL (m+1)))
 rw[nv_take L hL m hz,List.length_take,Nat.min_eq_left (by omega)]at hb
 have hs:=bl_sub _ hv
 have hq:=(bl_pos _ hs.2).2.2
 refine⟨m,hm,hz,hne,by omega,by omega,hb,?_,?_⟩
 ·exact trailing_some L hL (by omega) t ht htz htn g 0 cap _ hO.reads (hT.kept hK)
 ·have:=length_any (L.take (m+1)) ⟨dg_take L hL _,fun _=>?_⟩ (by simp;omega) _ _ (hO.slTake (m+1) (by omega))
  ·rw[nv_take L hL m hz]at this
   exact this
  ·rw[List.length_take,Nat.min_eq_left (by omega),Nat.add_sub_cancel,List.getD_eq_getElem?_getD,List.getElem?_take,if_pos (by omega),←List.getD_eq_getElem?_getD]
   exact hne
theorem form_no (neg:Bool)(L:List Int)(hL:Dg L)(hlen:L.length<60000000)(g cap:Nat)(x:Int)(w:World)(h:Own w g cap L)(hT:Tab w)(hf:frm neg (nv L) x=none):Calls Tryz.prog 74 #[.bool neg,.slice (some ⟨g,0,none⟩) L.length cap,.int .i64 x] w fun e w'=>e=.panicked gaveUp∧Kept w w':=by
 unfold frm at hf
 by_cases hv:nv L=0
 ·rw[if_pos hv]at hf;cases hf
 ·rw[if_neg hv]at hf
  split at hf
  ·cases hf
  ·rename_i hno
   obtain⟨m,hm,hz,hne,hZ,hB,hBm,KT,KL⟩:=form_ways L hL hlen g cap hv w h hT
   have hs:=bl_sub _ hv
   exact form_up neg L (by omega) m hm hz hne g cap x _ _ _ _ rfl rfl (by omega) (by omega) hB w h KT KL
theorem form_okg (neg:Bool)(L:List Int)(hL:Dg L)(hlen:L.length<60000000)(g cap:Nat)(x:Int)(w0 w:World)(hk:Kept w0 w)(hg:w0.heap.size≤g)(h:Own w g cap L)(hT:Tab w)(r:Nm)(hf:frm neg (nv L) x=some r):Calls Tryz.prog 74 #[.bool neg,.slice (some ⟨g,0,none⟩) L.length cap,.int .i64 x] w fun e w'=>(∃v,e=.returned v∧NewG g cap w0 w' v r)∧Kept w0 w'∧Grw g w w':=by
 unfold frm at hf
 by_cases hv:nv L=0
 ·rw[if_pos hv]at hf
  cases hf
  refine(form_zero neg L (by omega) ((nv_zero L hL).1 hv) g cap x w h).mono ?_
  rintro e w' ⟨rfl,k⟩
  exact⟨⟨_,rfl,.inl ⟨rfl,rfl⟩⟩,hk.trans k,k.toGrw g⟩
 ·rw [if_neg hv]at hf
  split at hf
  ·rename_i hyes
   cases hf
   obtain⟨m,hm,hz,hne,hZ,hB,hBm,KT,KL⟩:=form_ways L hL hlen g cap hv w h hT
   have hs:=bl_sub _ hv
   have hq:=(bl_pos _ hs.2).2.2
   have hdl:=digs_len _ hs.2
   refine(form_main neg L (by omega) m hm hz hne g cap x _ _ _ (digs (nv L/2^tzn (nv L))).length _ rfl (by omega) (by omega) (by omega) rfl hyes.2.1 hyes.2.2 hZ hB (by omega) w h KT KL).mono ?_
   rintro e w' ⟨M,rfl,hO,hC,hM,hG⟩
   have hO2:=hO.take _ hC
   have e1:M.take (digs (nv L/2^tzn (nv L))).length=digs (nv L/2^tzn (nv L)):=by
    apply List.ext_getElem?
    intro j
    rw[List.getElem?_take]
    split
    ·rename_i hj
     have h1:=hM j hj
     have h2:=pcq_eq L hL ((tzn (nv L)/30+j:Nat):Int) (tzn (nv L)%30) (by omega)
     have h3:=nv_getD _ (dg_digs (nv L/2^tzn (nv L))) j
     have h4:=(dg_digs (nv L/2^tzn (nv L))).getD j
     rw[nv_digs]at h3
     rw[h2,show 30*((tzn (nv L)/30+j:Nat):Int)+((tzn (nv L)%30:Nat):Int)=((tzn (nv L)+30*j:Nat):Int) by omega]at h1
     unfold pcz at h1
     rw[if_pos (by omega),Int.toNat_natCast,Nat.pow_add,←Nat.div_div_eq_div_mul,←h3]at h1
     rw[List.getElem?_eq_getElem hj,List.getElem?_eq_getElem (by omega)]
     rw[List.getD_eq_getElem?_getD,List.getElem?_eq_getElem (by omega)]at h1
     rw[List.getD_eq_getElem?_getD,List.getElem?_eq_getElem hj]at h1 h4
     simp only[Option.getD_some]at h1 h4
     congr 1
     omega
    ·rename_i hj
     rw[List.getElem?_eq_none (by omega)]
   rw[e1]at hO2
   have hne3:digs (nv L/2^tzn (nv L))≠[]:=by
    intro hh
    rw[hh]at hdl
    simp only[List.length_nil]at hdl
    omega
   exact⟨⟨_,rfl,.inr ⟨rfl,hg,hO2,hne3⟩⟩,hk.grw hg hG,hG⟩
  ·cases hf
theorem form_ok (neg:Bool)(L:List Int)(hL:Dg L)(hlen:L.length<60000000)(g cap:Nat)(x:Int)(w0 w:World)(hk:Kept w0 w)(hg:w0.heap.size≤g)(h:Own w g cap L)(hT:Tab w)(r:Nm)(hf:frm neg (nv L) x=some r):Calls Tryz.prog 74 #[.bool neg,.slice (some ⟨g,0,none⟩) L.length cap,.int .i64 x] w fun e w'=>(∃v,e=.returned v∧New w0 w' v r)∧Kept w0 w':=(form_okg neg L hL hlen g cap x w0 w hk hg h hT r hf).mono fun _ _ h=>⟨let ⟨v,h1,h2⟩:=h.1;⟨v,h1,h2.new⟩,h.2.1⟩
end Go.Proofs.YtnniljhdcplkgaaGreatDoor
