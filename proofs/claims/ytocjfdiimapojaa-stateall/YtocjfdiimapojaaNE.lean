/- How a matrix is read; how a shape is read; and that arguments read behind the call as before. How a state and bytes are read. How a state is read,by the form's own reach. -/
import Derived.Test.YtocjfdiimapojaaNB
import Derived.Test.YtocjfdiimapojaaRows
import Derived.ProofKit
import Derived.OpenShut
import Derived.Carry
import Derived.Lib.SmallJoins
import Derived.ChangeSlices
import Derived.Test.YtocjfdiimapojaaMH
import Derived.Deep.Slices
import Derived.Test.YtocjfdiimapojaaNC
import Derived.SizedLaws
namespace Go.Proofs.Ytocjfdiimapojaa
open Go.ChangeShapes Go.WideShapes Go.ChangeAt Go.RowKit Go.Joins
set_option maxHeartbeats 16000000
set_option maxRecDepth 100000
set_option linter.unusedVariables false
theorem laid_out : laidOutB Try.prog = true:=by kernel_rfl
theorem wf_rng (n : Int) (h : (Lit.int .i64 n).wf = true) : -9223372036854775808 ≤ n ∧ n ≤ 9223372036854775807:=by
 have e1 : IntKind.i64.min = -9223372036854775808:=rfl
 have e2 : IntKind.i64.max = 9223372036854775807:=rfl
 simp [Lit.wf] at h
 omega
theorem cells_int : Try.prog.cellsOf 3 = 1:=by kernel_rfl
section
variable {H : Type} {enc : TypeId × Value → H} {W : World}
theorem open_lst {fuel : Nat} {cs : List Value} {x : DataW H × List MemPlace} (h : DataW.trod enc Try.prog W 0 (fun _ => true) true fuel 52 cs = some x) :
  ∃ (L : List Int) (ar : Option Addr) (cr : Nat),cs = [.slice ar L.length cr] ∧ (ar = none → cr = 0) ∧ (∀ d ∈ L,-9223372036854775808 ≤ d ∧ d ≤ 9223372036854775807) ∧ Sl W (.slice ar L.length cr) L:=by
 rcases open_ints Try.underlying52 Try.underlying3 cells_int h with ⟨rfl,-⟩ | ⟨a,len,cap,zs,rfl,-,hl,hm,hz,-,hcell,hwf⟩
 ·exact ⟨[],none,0,rfl,fun _ => rfl,fun d hd => (by cases hd),none,0,rfl,Nat.le_refl _,by simp [maxLen],fun h => absurd rfl h⟩
 ·have hlen : (zs.take len).length = len:=by
   rw [List.length_take,hz]
   simp
   omega
  refine ⟨zs.take len,some a,cap,by rw [hlen],fun h => (by cases h),fun d hd => wf_rng d (hwf d (List.mem_of_mem_take hd)),some a,cap,by rw [hlen],by rw [hlen]; exact hl,hm,fun hne => ?_⟩
  have hpos : 0 < len:=by
   rcases Nat.eq_zero_or_pos len with h0 | h0
   ·subst h0; simp at hne
   ·exact h0
  have hzl : len ≤ zs.length:=by rw [hz]; simp; omega
  have h0:=hcell 0 (by omega)
  have hs:=World.cell?_spot h0
  have hb:=World.block_lt_of_cell? W _ h0
  obtain ⟨ab,ao,asp⟩:=a
  simp [Addr.add] at hs hb
  subst hs
  refine ⟨ab,ao,rfl,hb,fun i hi => ?_⟩
  rw [hlen] at hi
  have:=hcell i (by omega)
  rw [Addr.add_lit] at this
  rw [this,List.getD_eq_getElem?_getD,List.getD_eq_getElem?_getD,List.getElem?_take,if_pos hi]
theorem trodAll_stays {W' : World} {sp : Nat → Bool} : ∀ {ts : List TypeId} {vs : List Value} {ds : List (DataW H)} {p : List MemPlace},(∀ t ∈ ts,Try.prog.readableRec t = true ∧ t < Try.prog.types.size) → DataW.TrodAll enc Try.prog W 0 (fun _ => true) true ts vs ds p → (∀ x ∈ p,W.sameAt W' x) → (∀ x ∈ p,sp x.block = true) → DataW.TrodAll enc Try.prog W' 0 sp true ts vs ds p
 | [],_,_,_,_,h,_,_ => by
  obtain ⟨rfl,rfl,rfl⟩:=trodAll_nil h
  exact trodAll_mk0
 | t :: ts,_,_,_,hr,h,hs,hp => by
  obtain ⟨v,vs1,d,ds1,a,b,rfl,rfl,rfl,h1,h2⟩:=trodAll_cons h
  obtain ⟨r1,r2⟩:=hr t (by simp)
  exact trodAll_cons_mk (WideElems.Trod_stays laid_out r1 r2 h1 (fun x hx => hs x (by simp [hx])) (fun x hx => hp x (by simp [hx]))) (trodAll_stays (fun t' ht' => hr t' (by simp [ht'])) h2 (fun x hx => hs x (by simp [hx])) (fun x hx => hp x (by simp [hx])))
end
end Go.Proofs.Ytocjfdiimapojaa

namespace Go.Proofs.Ytocjfdiimapojaa
open Go.ChangeShapes Go.WideShapes Go.ChangeAt Go.RowKit Go.Joins
set_option maxHeartbeats 16000000
set_option maxRecDepth 100000
set_option linter.unusedVariables false
set_option linter.unusedSimpArgs false
theorem cells_li : Try.prog.cellsOf 52 = 1:=by kernel_rfl
theorem cells_mat4 : Try.prog.cellsOf 54 = 4:=by kernel_rfl
theorem cells_lm : Try.prog.cellsOf 32 = 1:=by kernel_rfl
theorem cells_llm : Try.prog.cellsOf 33 = 1:=by kernel_rfl
theorem cells_sta : Try.prog.cellsOf 35 = 7:=by kernel_rfl
theorem cells_u8 : Try.prog.cellsOf 5 = 1:=by kernel_rfl
section
variable {H : Type} {enc : TypeId × Value → H} {W : World}
theorem open_bytes {fuel : Nat} {cs : List Value} {x : DataW H × List MemPlace} (h : DataW.trod enc Try.prog W 0 (fun _ => true) true fuel 22 cs = some x) :
  ∃ (L : List Int) (ar : Option Addr) (cr : Nat),cs = [.slice ar L.length cr] ∧ Byt L ∧ L.length ≤ cr ∧ cr ≤ maxLen ∧ (L ≠ [] → ∃ b off,ar = some ⟨b,off,none⟩ ∧ b < W.heap.size ∧ BR W b off L):=by
 rcases open_ints Try.underlying22 Try.underlying5 cells_u8 h with ⟨rfl,-⟩ | ⟨a,len,cap,zs,rfl,-,hl,hm,hz,-,hcell,hwf⟩
 ·exact ⟨[],none,0,rfl,byt_nil,Nat.le_refl _,by simp [maxLen],fun h => absurd rfl h⟩
 ·have hlen : (zs.take len).length = len:=by
   rw [List.length_take,hz]
   simp
   omega
  have hzl : len ≤ zs.length:=by rw [hz]; simp; omega
  refine ⟨zs.take len,some a,cap,by rw [hlen],fun i hi => ?_,by rw [hlen]; exact hl,hm,fun hne => ?_⟩
  ·rw [hlen] at hi
   have hw:=hwf ((zs.take len).getD i 0) (List.mem_of_mem_take (i:=len) (by
    rw [List.getD_eq_getElem?_getD,List.getElem?_eq_getElem (by rw [hlen]; exact hi)]
    exact List.getElem_mem _))
   simp only [Lit.wf,Bool.and_eq_true,decide_eq_true_eq] at hw
   have h1 : IntKind.u8.min = 0:=rfl
   have h2 : IntKind.u8.max = 255:=rfl
   omega
  ·have hpos : 0 < len:=by
    rcases Nat.eq_zero_or_pos len with h0 | h0
    ·subst h0; simp at hne
    ·exact h0
   have h0:=hcell 0 (by omega)
   have hs:=World.cell?_spot h0
   have hb:=World.block_lt_of_cell? W _ h0
   obtain ⟨ab,ao,asp⟩:=a
   simp [Addr.add] at hs hb
   subst hs
   refine ⟨ab,ao,rfl,hb,fun i hi => ?_⟩
   rw [hlen] at hi
   have:=hcell i (by omega)
   rw [Addr.add_lit] at this
   rw [this,List.getD_eq_getElem?_getD,List.getD_eq_getElem?_getD,List.getElem?_take,if_pos hi]
end
end Go.Proofs.Ytocjfdiimapojaa

namespace Go.Proofs.Ytocjfdiimapojaa
open Go.ChangeShapes Go.WideShapes Go.ChangeAt Go.RowKit Go.Joins
set_option maxHeartbeats 16000000
set_option maxRecDepth 100000
set_option linter.unusedVariables false
set_option linter.unusedSimpArgs false
theorem bytes_int : Try.prog.bytesOf 3 = 8:=by kernel_rfl
theorem bytes_mat : Try.prog.bytesOf 54 = 48:=by kernel_rfl
theorem bytes_lm : Try.prog.bytesOf 32 = 24:=by kernel_rfl
section
variable {H : Type} {enc : TypeId × Value → H} {W : World}
theorem open_lst2 {fuel : Nat} {cs : List Value} {x : DataW H × List MemPlace} (h : DataW.trod enc Try.prog W 0 (fun _ => true) true fuel 52 cs = some x) (hz : ∀ m ∈ x.1.weights Try.prog 52,m ≤ reachBytes) :
  ∃ (L : List Int) (ar : Option Addr) (cr : Nat),cs = [.slice ar L.length cr] ∧ (∀ d ∈ L,-9223372036854775808 ≤ d ∧ d ≤ 9223372036854775807) ∧ Sl W (.slice ar L.length cr) L ∧ L.length ≤ 140737488351232:=by
 have h':=h
 rcases open_ints Try.underlying52 Try.underlying3 cells_int h with ⟨rfl,-⟩ | ⟨a,len,cap,zs,rfl,-,hl,hm,hzs,hx,-,-⟩
 ·obtain ⟨L,ar,cr,e,-,hR,hS⟩:=open_lst h'
  refine ⟨L,ar,cr,e,hR,hS,?_⟩
  simp only [List.cons.injEq,and_true] at e
  injection e with e1 e2 e3
  omega
 ·obtain ⟨L,ar,cr,e,-,hR,hS⟩:=open_lst h'
  refine ⟨L,ar,cr,e,hR,hS,?_⟩
  simp only [List.cons.injEq,and_true] at e
  injection e with e1 e2 e3
  have:=hz ((lits IntKind.i64 (zs.take len)).length * 8 + (lits IntKind.i64 (zs.drop len)).length * 8) (by
   rw [hx]
   simp [DataW.weights,Try.underlying52,bytes_int,Nat.add_mul]
   exact .inl rfl)
  simp only [lits,List.length_map,List.length_take,List.length_drop,reachBytes] at this
  have : len ≤ zs.length:=by rw [hzs]; simp; omega
  omega
theorem weightsAll_mem {P : Program} {e : TypeId} : ∀ {l : List (DataW H)} {d : DataW H},d ∈ l → ∀ m ∈ d.weights P e,m ∈ DataW.weightsAll P e l
 | [],_,h,_,_ => by cases h
 | d0 :: l,d,h,m,hm => by
  rw [DataW.weightsAll]
  rcases List.mem_cons.1 h with h | h
  ·subst h; exact List.mem_append_left _ hm
  ·exact List.mem_append_right _ (weightsAll_mem h m hm)
theorem open_mlz {fuel : Nat} {cs : List Value} {x : DataW H × List MemPlace} (hf : DataW.trod enc Try.prog W 0 (fun _ => true) true fuel 32 cs = some x) (hz : ∀ m ∈ x.1.weights Try.prog 32,m ≤ reachBytes) :
  ∃ (v : Value) (l : List Mat),cs = [v] ∧ MlI W v l ∧ l.length ≤ 140737488351232 ∧ ∀ m ∈ l,MRg m ∧ m.L.length ≤ 140737488351232:=by
 rcases Go.Deep.open_slice Try.underlying32 hf with ⟨rfl,-⟩ | ⟨a,len,cap,m,n,D,Pl,rfl,hb,hl,hm,hmm,hxd,hx⟩
 ·exact ⟨_,[],rfl,⟨none,0,rfl,Nat.le_refl _,fun h => absurd rfl h⟩,by simp,fun m hm => by cases hm⟩
 ·have hlm : len ≤ m:=by rw [hmm]; simp; omega
  have hd : x.1 = .slice ((List.range len).map D) ((List.range (m - len)).map fun j => D (len + j)):=congrArg Prod.fst hxd
  have hk : len ≤ 140737488351232:=by
   have:=hz ((len + (m - len)) * 48) (by
    rw [hd]
    simp [DataW.weights,Try.underlying32,bytes_mat])
   simp only [reachBytes] at this
   omega
  have hsp : 0 < len → a.spot = none:=fun h0 => by
   obtain ⟨cz,hz1,-⟩:=hx 0 (by omega)
   rw [cells_mat4] at hz1
   obtain ⟨_,hlz,hcz⟩:=World.cells?_some hz1
   have c0:=hcz 0 (by omega)
   obtain ⟨u,hu⟩ : ∃ u,cz[0]? = some u:=⟨cz[0]'(by omega),List.getElem?_eq_getElem _⟩
   rw [hu] at c0
   have:=World.cell?_spot c0
   simpa [Addr.add] using this
  have each : ∀ i,∃ q : Mat,i < len → ∃ B off b c,a = ⟨B,off,none⟩ ∧ MC W B (off + i * 4) b c q ∧ MRg q ∧ q.L.length ≤ 140737488351232:=fun i => by
   by_cases hi : i < len
   ·obtain ⟨cs',h1,h2⟩:=hx i (by omega)
    rw [cells_mat4] at h1
    obtain ⟨_,hlen',hcell⟩:=World.cells?_some h1
    obtain ⟨y0,y1,y2,y3,n1,hy,-,g0,g1,g2,g3⟩:=trod_struct4 Try.underlying54 h2
    have hD : D i = .agg [y0.1,y1.1,y2.1,y3.1]:=congrArg Prod.fst hy
    match cs',hlen' with
    | [v0,v1,v2,v3],_ =>
     simp only [cells_int,cells_li,List.drop_zero,List.drop_succ_cons,List.take_succ_cons,List.take_zero] at g0 g1 g2 g3
     obtain ⟨x0,e0,-,w0⟩:=DataW.trod_int Try.underlying3 g0
     obtain ⟨x1,e1,-,w1⟩:=DataW.trod_int Try.underlying3 g1
     obtain ⟨x2,e2,-,w2⟩:=DataW.trod_int Try.underlying3 g2
     obtain ⟨L,lr,cr,e3,hR,hS,hL⟩:=open_lst2 g3 (fun m hm => hz m (by
      rw [hd]
      simp only [DataW.weights,Try.underlying32,List.mem_cons,List.mem_append]
      refine .inr (.inl (weightsAll_mem (d:=D i) (List.mem_map.2 ⟨i,List.mem_range.2 hi,rfl⟩) m ?_))
      rw [hD]
      simp only [DataW.weights,Try.underlying54,DataW.weightsEach,List.mem_append,List.map_cons,List.map_nil]
      exact .inr (.inr (.inr (.inl hm)))))
     simp only [List.cons.injEq,and_true] at e0 e1 e2 e3
     subst e0 e1 e2 e3
     have c0:=hcell 0 (by omega)
     have c1:=hcell 1 (by omega)
     have c2:=hcell 2 (by omega)
     have c3:=hcell 3 (by omega)
     simp only [List.getElem?_cons_zero,List.getElem?_cons_succ] at c0 c1 c2 c3
     have hs : a.spot = none:=hsp (by omega)
     obtain ⟨ab,ao,asp⟩:=a
     simp only at hs
     subst hs
     rw [Addr.add_lit,Addr.add_lit] at c0 c1 c2 c3
     exact ⟨⟨x0,x1,x2,L⟩,fun _ => ⟨ab,ao,lr,cr,rfl,⟨by simpa using c0,by simpa using c1,by simpa using c2,by simpa using c3,hS⟩,hR,hL⟩⟩
   ·exact ⟨⟨0,0,0,[]⟩,fun h => absurd h hi⟩
  have hll : ((List.range len).map fun i => Classical.choose (each i)).length = len:=by simp
  refine ⟨_,(List.range len).map fun i => Classical.choose (each i),rfl,⟨some a,cap,by rw [hll],by rw [hll]; exact hl,fun hne => ?_⟩,by rw [hll]; omega,fun q hq => ?_⟩
  ·have hpos : 0 < len:=by
    rcases Nat.eq_zero_or_pos len with h0 | h0
    ·subst h0; simp at hne
    ·exact h0
   obtain ⟨B,off,-,-,ea,-,-⟩:=Classical.choose_spec (each 0) hpos
   refine ⟨B,off,by rw [ea],fun i q hq => ?_⟩
   obtain ⟨hi,hq2⟩:=List.getElem?_eq_some_iff.1 hq
   rw [hll] at hi
   obtain ⟨B2,off2,b,c,ea2,hmc,-⟩:=Classical.choose_spec (each i) hi
   rw [ea] at ea2
   cases ea2
   simp only [List.getElem_map,List.getElem_range] at hq2
   rw [← hq2]
   exact ⟨b,c,hmc⟩
  ·obtain ⟨i,hi,rfl⟩:=List.mem_map.1 hq
   obtain ⟨-,-,-,-,-,-,hr⟩:=Classical.choose_spec (each i) (List.mem_range.1 hi)
   exact hr
theorem open_llz {fuel : Nat} {cs : List Value} {x : DataW H × List MemPlace} (hf : DataW.trod enc Try.prog W 0 (fun _ => true) true fuel 33 cs = some x) (hz : ∀ m ∈ x.1.weights Try.prog 33,m ≤ reachBytes) :
  ∃ (v : Value) (Q : List (List Mat)),cs = [v] ∧ LlI W v Q ∧ Q.length ≤ 140737488351232 ∧ ∀ l ∈ Q,l.length ≤ 140737488351232 ∧ ∀ m ∈ l,MRg m ∧ m.L.length ≤ 140737488351232:=by
 rcases Go.Deep.open_slice Try.underlying33 hf with ⟨rfl,-⟩ | ⟨a,len,cap,m,n,D,Pl,rfl,hb,hl,hm,hmm,hxd,hx⟩
 ·exact ⟨_,[],rfl,⟨none,0,rfl,Nat.le_refl _,fun h => absurd rfl h⟩,by simp,fun m hm => by cases hm⟩
 ·have hlm : len ≤ m:=by rw [hmm]; simp; omega
  have hd : x.1 = .slice ((List.range len).map D) ((List.range (m - len)).map fun j => D (len + j)):=congrArg Prod.fst hxd
  have hk : len ≤ 140737488351232:=by
   have:=hz ((len + (m - len)) * 24) (by
    rw [hd]
    simp [DataW.weights,Try.underlying33,bytes_lm])
   simp only [reachBytes] at this
   omega
  have hsp : 0 < len → a.spot = none:=fun h0 => by
   obtain ⟨cz,hz1,-⟩:=hx 0 (by omega)
   rw [cells_lm] at hz1
   obtain ⟨_,hlz,hcz⟩:=World.cells?_some hz1
   have c0:=hcz 0 (by omega)
   obtain ⟨u,hu⟩ : ∃ u,cz[0]? = some u:=⟨cz[0]'(by omega),List.getElem?_eq_getElem _⟩
   rw [hu] at c0
   have:=World.cell?_spot c0
   simpa [Addr.add] using this
  have each : ∀ i,∃ q : List Mat,i < len → ∃ B off lv,a = ⟨B,off,none⟩ ∧ W.cell? ⟨B,off + i,none⟩ = some lv ∧ MlI W lv q ∧ q.length ≤ 140737488351232 ∧ ∀ m ∈ q,MRg m ∧ m.L.length ≤ 140737488351232:=fun i => by
   by_cases hi : i < len
   ·obtain ⟨cs',h1,h2⟩:=hx i (by omega)
    rw [cells_lm] at h1
    obtain ⟨_,hlen',hcell⟩:=World.cells?_some h1
    obtain ⟨lv,q,rfl,hM,hq,hr⟩:=open_mlz h2 (fun m hm => hz m (by
     rw [hd]
     simp only [DataW.weights,Try.underlying33,List.mem_cons,List.mem_append]
     exact .inr (.inl (weightsAll_mem (d:=D i) (List.mem_map.2 ⟨i,List.mem_range.2 hi,rfl⟩) m hm))))
    have c0:=hcell 0 (by omega)
    simp only [List.getElem?_cons_zero] at c0
    have hs : a.spot = none:=hsp (by omega)
    obtain ⟨ab,ao,asp⟩:=a
    simp only at hs
    subst hs
    rw [Addr.add_lit,Addr.add_lit] at c0
    exact ⟨q,fun _ => ⟨ab,ao,lv,rfl,by simpa using c0,hM,hq,hr⟩⟩
   ·exact ⟨[],fun h => absurd h hi⟩
  have hll : ((List.range len).map fun i => Classical.choose (each i)).length = len:=by simp
  refine ⟨_,(List.range len).map fun i => Classical.choose (each i),rfl,⟨some a,cap,by rw [hll],by rw [hll]; exact hl,fun hne => ?_⟩,by rw [hll]; omega,fun q hq => ?_⟩
  ·have hpos : 0 < len:=by
    rcases Nat.eq_zero_or_pos len with h0 | h0
    ·subst h0; simp at hne
    ·exact h0
   obtain ⟨B,off,-,ea,-⟩:=Classical.choose_spec (each 0) hpos
   refine ⟨B,off,by rw [ea],fun i q hq => ?_⟩
   obtain ⟨hi,hq2⟩:=List.getElem?_eq_some_iff.1 hq
   rw [hll] at hi
   obtain ⟨B2,off2,lv,ea2,hc,hmc,-⟩:=Classical.choose_spec (each i) hi
   rw [ea] at ea2
   cases ea2
   simp only [List.getElem_map,List.getElem_range] at hq2
   rw [← hq2]
   exact ⟨lv,hc,hmc⟩
  ·obtain ⟨i,hi,rfl⟩:=List.mem_map.1 hq
   obtain ⟨-,-,-,-,-,-,hr⟩:=Classical.choose_spec (each i) (List.mem_range.1 hi)
   exact hr
end
end Go.Proofs.Ytocjfdiimapojaa
