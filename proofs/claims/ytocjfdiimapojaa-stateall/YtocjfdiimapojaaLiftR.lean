/- How a script of asks is read,by the form's own reach. -/
import Derived.Test.YtocjfdiimapojaaNE
import Derived.Test.YtocjfdiimapojaaLR
namespace Go.Proofs.Ytocjfdiimapojaa
open Go.ChangeShapes Go.WideShapes Go.ChangeAt Go.RowKit Go.Joins
set_option maxHeartbeats 16000000
set_option maxRecDepth 100000
set_option linter.unusedVariables false
set_option linter.unusedSimpArgs false
theorem bytes_askz : Try.prog.bytesOf 37 = 112:=by kernel_rfl
theorem cells_askz : Try.prog.cellsOf 37 = 8:=by kernel_rfl
theorem cells_byz : Try.prog.cellsOf 22 = 1:=by kernel_rfl
section
variable {H : Type} {enc : TypeId × Value → H} {W : World}
theorem open_st7 {fuel : Nat} {c0 c1 c2 c3 c4 c5 c6 : Value} {x : DataW H × List MemPlace} (hf : DataW.trod enc Try.prog W 0 (fun _ => true) true fuel 35 [c0,c1,c2,c3,c4,c5,c6] = some x) (hsz2 : ∀ m ∈ x.1.weights Try.prog 35,m ≤ reachBytes) :
  ∃ (sa sb sd : Int) (pa : Option Addr) (pn pc : Nat) (qa : Option Addr) (qn qc : Nat) (lo ra : Int) (s : Sta),c0 = .int .i64 sa ∧ c1 = .int .i64 sb ∧ c2 = .int .i64 sd ∧ c3 = .slice pa pn pc ∧ c4 = .slice qa qn qc ∧ c5 = .int .i64 lo ∧ c6 = .int .i64 ra ∧ StI W (.agg #[.int .i64 sa,.int .i64 sb,.int .i64 sd,.slice pa pn pc,.slice qa qn qc,.int .i64 lo,.int .i64 ra]) s ∧ SRg s ∧ SRc s:=by
 obtain ⟨xs,n,-,hdx,-,hlen,hg⟩:=DataW.trod_struct Try.underlying35 hf
 obtain ⟨y0,y1,y2,y3,y4,y5,y6,rfl⟩ : ∃ y0 y1 y2 y3 y4 y5 y6,xs = [y0,y1,y2,y3,y4,y5,y6]:=by
  match xs,hlen with
  | [y0,y1,y2,y3,y4,y5,y6],_ => exact ⟨_,_,_,_,_,_,_,rfl⟩
 have hd : x.1 = .agg (([y0,y1,y2,y3,y4,y5,y6] : List (DataW H × List MemPlace)).map (·.1)):=congrArg Prod.fst hdx
 ·skip
  have h0 := hg 0 { name := "Step", type := 3, offset := 0, embedded := false, tag := "", pkgPath := "", byteOffset := 0 } rfl
  have h1 := hg 1 { name := "Epoch", type := 3, offset := 1, embedded := false, tag := "", pkgPath := "", byteOffset := 8 } rfl
  have h2 := hg 2 { name := "Batch", type := 3, offset := 2, embedded := false, tag := "", pkgPath := "", byteOffset := 16 } rfl
  have h3 := hg 3 { name := "Params", type := 32, offset := 3, embedded := false, tag := "", pkgPath := "", byteOffset := 24 } rfl
  have h4 := hg 4 { name := "Slots", type := 33, offset := 4, embedded := false, tag := "", pkgPath := "", byteOffset := 48 } rfl
  have h5 := hg 5 { name := "Loss", type := 3, offset := 5, embedded := false, tag := "", pkgPath := "", byteOffset := 72 } rfl
  have h6 := hg 6 { name := "Rate", type := 3, offset := 6, embedded := false, tag := "", pkgPath := "", byteOffset := 80 } rfl
  simp only [Value.cells,cells_int,cells_lm,cells_llm,List.drop_zero,List.drop_succ_cons,List.take_succ_cons,List.take_zero,List.getElem?_cons_zero,List.getElem?_cons_succ] at h0 h1 h2 h3 h4 h5 h6
  obtain ⟨x0,e0,-,w0⟩:=DataW.trod_int Try.underlying3 h0
  obtain ⟨x1,e1,-,w1⟩:=DataW.trod_int Try.underlying3 h1
  obtain ⟨x2,e2,-,w2⟩:=DataW.trod_int Try.underlying3 h2
  obtain ⟨pv,P,e3,hP,hPl,hPr⟩:=open_mlz h3 (fun m hm => hsz2 m (by simp only [hd,DataW.weights,Try.underlying35,DataW.weightsEach,List.mem_append,List.map_cons,List.map_nil]; exact .inr (.inr (.inr (.inl hm)))))
  obtain ⟨qv,Q,e4,hQ,hQl,hQr⟩:=open_llz h4 (fun m hm => hsz2 m (by simp only [hd,DataW.weights,Try.underlying35,DataW.weightsEach,List.mem_append,List.map_cons,List.map_nil]; exact .inr (.inr (.inr (.inr (.inl hm))))))
  obtain ⟨x5,e5,-,w5⟩:=DataW.trod_int Try.underlying3 h5
  obtain ⟨x6,e6,-,w6⟩:=DataW.trod_int Try.underlying3 h6
  simp only [Value.cells,cells_int,List.drop_zero,List.drop_succ_cons,List.take_succ_cons,List.take_zero,List.cons.injEq,and_true] at e0 e1 e2 e3 e4 e5 e6
  subst e0 e1 e2 e3 e4 e5 e6
  have hP2:=hP
  have hQ2:=hQ
  obtain ⟨pa,pc,rfl,-⟩:=hP2
  obtain ⟨qa,qc,rfl,-⟩:=hQ2
  have HS : ∃ s : Sta,s.P.length = P.length ∧ s.Q.length = Q.length ∧ StI W (.agg #[.int .i64 x0,.int .i64 x1,.int .i64 x2,.slice pa P.length pc,.slice qa Q.length qc,.int .i64 x5,.int .i64 x6]) s ∧ SRg s ∧ SRc s:=by
   have h:=(show ∃ s : Sta,StI W (.agg #[.int .i64 x0,.int .i64 x1,.int .i64 x2,.slice pa P.length pc,.slice qa Q.length qc,.int .i64 x5,.int .i64 x6]) s ∧ SRg s ∧ SRc s from ⟨⟨x0,x1,x2,P,Q,x5,x6⟩,⟨_,_,rfl,hP,hQ⟩,⟨wf_rng x5 w5,wf_rng x6 w6,fun m hm => (hPr m hm).1,fun l hl m hm => ((hQr l hl).2 m hm).1⟩,⟨hPl,hQl,fun i l hi => (hQr l (List.mem_of_getElem? hi)).1,fun i m hi => (hPr m (List.mem_of_getElem? hi)).2,fun i l hi j m hj => ((hQr l (List.mem_of_getElem? hi)).2 m (List.mem_of_getElem? hj)).2⟩⟩)
   obtain ⟨s,h1,h2,h3⟩:=h
   refine ⟨s,?_,?_,h1,h2,h3⟩
   ·obtain ⟨pv,qv,e,hp,hq⟩:=h1
    obtain ⟨a1,b1,e1,-⟩:=hp
    simp at e
    rw [e1] at e
    have:=e.2.2.2.1
    injection this with _ e3 _
    exact e3.symm
   ·obtain ⟨pv,qv,e,hp,hq⟩:=h1
    obtain ⟨a1,b1,e1,-⟩:=hq
    simp at e
    rw [e1] at e
    have:=e.2.2.2.2.1
    injection this with _ e3 _
    exact e3.symm
  obtain ⟨s,-,-,h1,h2,h3⟩:=HS
  exact ⟨_,_,_,_,_,_,_,_,_,_,_,s,rfl,rfl,rfl,rfl,rfl,rfl,rfl,h1,h2,h3⟩
theorem open_asksz {b0 : Nat} {v : Value} {d : DataW H} {p : List MemPlace} (hv : Value.okWide Try.prog W .any b0 31 v) (h : DataW.Trod enc Try.prog W 0 (fun _ => true) true 31 v d p) (hz : ∀ m ∈ d.weights Try.prog 31,m ≤ reachBytes) :
  ∃ (ar : Option Addr) (len cap : Nat),v = .slice ar len cap ∧ len ≤ 1000000000000000 ∧ ∀ i,i < len → ∃ b off,ar = some ⟨b,off,none⟩ ∧ b < W.heap.size ∧ AskI W b (off + i * 8):=by
 obtain ⟨ar,len,cap,rfl⟩:=okWide_slice Try.underlying31 hv
 obtain ⟨fuel,hf⟩:=h
 rcases Go.Deep.open_slice Try.underlying31 hf with ⟨h0,-⟩ | ⟨a,len',cap',m,n,D,Pl,hcs,hb,hl,hm,hmm,hxd,hx⟩
 ·have hl0 : len = 0:=by simp [Value.cells] at h0; exact h0.2.1
  subst hl0
  exact ⟨ar,0,cap,rfl,Nat.zero_le _,fun i hi => absurd hi (Nat.not_lt_zero _)⟩
 ·have he : ar = some a ∧ len = len':=by simp [Value.cells] at hcs; exact ⟨hcs.1,hcs.2.1⟩
  obtain ⟨rfl,rfl⟩:=he
  have hlm : len ≤ m:=by rw [hmm]; simp; omega
  have hd : d = .slice ((List.range len).map D) ((List.range (m - len)).map fun j => D (len + j)):=congrArg Prod.fst hxd
  have hk : len ≤ 1000000000000000:=by
   have:=hz ((len + (m - len)) * 112) (by
    rw [hd]
    simp [DataW.weights,Try.underlying31,bytes_askz])
   simp only [reachBytes] at this
   omega
  refine ⟨_,len,cap,rfl,hk,fun i hi => ?_⟩
  have him : i < m:=by omega
  obtain ⟨cz,hz1,hz2⟩:=hx 0 (by omega)
  rw [cells_askz] at hz1
  obtain ⟨_,hlz,hcz⟩:=World.cells?_some hz1
  have hs : a.spot = none:=by
   have c:=hcz 0 (by omega)
   obtain ⟨u,hu⟩ : ∃ u,cz[0]? = some u:=⟨cz[0]'(by omega),List.getElem?_eq_getElem _⟩
   rw [hu] at c
   have:=World.cell?_spot c
   simpa [Addr.add] using this
  obtain ⟨ab,ao,asp⟩:=a
  simp only at hs
  subst hs
  clear hcz hz1 hz2 hlz
  obtain ⟨cs',h1,h2⟩:=hx i him
  rw [cells_askz] at h1
  obtain ⟨_,hlen,hcell⟩:=World.cells?_some h1
  obtain ⟨xs,n1,-,hdx,-,hlx,hg⟩:=DataW.trod_struct Try.underlying37 h2
  obtain ⟨y0,y1,rfl⟩ : ∃ y0 y1,xs = [y0,y1]:=by
   match xs,hlx with
   | [y0,y1],_ => exact ⟨_,_,rfl⟩
  have hD : D i = .agg (([y0,y1] : List (DataW H × List MemPlace)).map (·.1)):=congrArg Prod.fst hdx
  match cs',hlen with
  | [v0,v1,v2,v3,v4,v5,v6,v7],_ =>
   have g0 := hg 0 { name := "S", type := 35, offset := 0, embedded := false, tag := "", pkgPath := "", byteOffset := 0 } rfl
   have g1 := hg 1 { name := "B", type := 22, offset := 7, embedded := false, tag := "", pkgPath := "", byteOffset := 88 } rfl
   simp only [cells_sta,cells_byz,List.drop_zero,List.drop_succ_cons,List.take_succ_cons,List.take_zero,List.getElem?_cons_zero,List.getElem?_cons_succ] at g0 g1
   have hw0 : ∀ m ∈ y0.1.weights Try.prog 35,m ≤ reachBytes:=fun m hm => hz m (by
    rw [hd]
    simp only [DataW.weights,Try.underlying31,List.mem_cons,List.mem_append]
    refine .inr (.inl (weightsAll_mem (d:=D i) (List.mem_map.2 ⟨i,List.mem_range.2 hi,rfl⟩) m ?_))
    rw [hD]
    simp only [DataW.weights,Try.underlying37,DataW.weightsEach,List.mem_append,List.map_cons,List.map_nil]
    exact .inl hm)
   obtain ⟨sa,sb,sd,pa,pn,pc,qa,qn,qc,lo,ra,s,rfl,rfl,rfl,rfl,rfl,rfl,rfl,hS,hr,hc⟩:=open_st7 g0 hw0
   obtain ⟨L,ar',cr,e7,hB,hlc,-,hR⟩:=open_bytes g1
   simp only [List.cons.injEq,and_true] at e7
   subst e7
   have q0:=hcell 0 (by omega)
   have q1:=hcell 1 (by omega)
   have q2:=hcell 2 (by omega)
   have q3:=hcell 3 (by omega)
   have q4:=hcell 4 (by omega)
   have q5:=hcell 5 (by omega)
   have q6:=hcell 6 (by omega)
   have q7:=hcell 7 (by omega)
   simp only [List.getElem?_cons_zero,List.getElem?_cons_succ] at q0 q1 q2 q3 q4 q5 q6 q7
   rw [Addr.add_lit,Addr.add_lit] at q0 q1 q2 q3 q4 q5 q6 q7
   have hbW:=World.block_lt_of_cell? W _ q0
   exact ⟨ab,ao,rfl,hbW,sa,sb,sd,pa,pn,pc,qa,qn,qc,lo,ra,ar',cr,s,L,by simpa using q0,by simpa using q1,by simpa using q2,by simpa using q3,by simpa using q4,by simpa using q5,by simpa using q6,by simpa using q7,hS,hr,hc,hB,hlc,hR⟩
end
end Go.Proofs.Ytocjfdiimapojaa
