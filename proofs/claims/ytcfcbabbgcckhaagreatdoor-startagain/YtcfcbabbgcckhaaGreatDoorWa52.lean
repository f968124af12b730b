/- How arguments are read: exact numbers,lists of ints; and that they read behind the call as before. The laws of chapter 16: StartAgain. How an Init is read. -/
import Derived.Test.YtcfcbabbgcckhaaGreatDoorWa07
import Derived.ProofKit
import Derived.OpenShut
import Derived.Carry
import Derived.Lib.SmallJoins
import Derived.ChangeSlices
import Derived.Test.YtcfcbabbgcckhaaGreatDoorWa50
import Derived.Test.YtcfcbabbgcckhaaGreatDoorWa51
namespace Go.Proofs.YtcfcbabbgcckhaaGreatDoor
open Go.ChangeShapes Go.WideShapes Go.ChangeAt Go.RowKit Go.Joins
set_option maxHeartbeats 16000000
set_option maxRecDepth 100000
set_option linter.unusedVariables false
theorem laid_out : laidOutB Tryz.prog = true:=by kernel_rfl
theorem cells_int : Tryz.prog.cellsOf 3 = 1:=by kernel_rfl
theorem wf_rng (n : Int) (h : (Lit.int .i64 n).wf = true) : -9223372036854775808 ≤ n ∧ n ≤ 9223372036854775807:=by
 have e1 : IntKind.i64.min = -9223372036854775808:=rfl
 have e2 : IntKind.i64.max = 9223372036854775807:=rfl
 simp [Lit.wf] at h
 omega
section
variable {H : Type} {enc : TypeId × Value → H} {W : World}
theorem open_lst {fuel : Nat} {cs : List Value} {x : DataW H × List MemPlace} (h : DataW.trod enc Tryz.prog W 0 (fun _ => true) true fuel 26 cs = some x) :
  ∃ (L : List Int) (ar : Option Addr) (cr : Nat),cs = [.slice ar L.length cr] ∧ (ar = none → cr = 0) ∧ Rg L ∧ Sl W (.slice ar L.length cr) L:=by
 rcases open_ints Tryz.underlying26 Tryz.underlying3 cells_int h with ⟨rfl,-⟩ | ⟨a,len,cap,zs,rfl,-,hl,hm,hz,-,hcell,hwf⟩
 ·exact ⟨[],none,0,rfl,fun _ => rfl,fun d hd => (by cases hd),none,0,rfl,Nat.le_refl _,by simp [maxLen],fun h => absurd rfl h⟩
 ·have hlen : (zs.take len).length = len:=by
   rw [List.length_take,hz]
   simp
   omega
  refine ⟨zs.take len,some a,cap,by rw [hlen],fun h => (by cases h),fun d hd => wf_rng d (hwf d (List.mem_of_mem_take hd)),some a,cap,by rw [hlen],by rw [hlen]; exact hl,hm,fun hne => ?_⟩
  have hpos : 0 < len:=by
   rcases Nat.eq_zero_or_pos len with h0 | h0
   ·subst h0; simp at hne
   ·exact h0
  have hzl : len ≤ zs.length:=by rw [hz]; simp; omega
  have h0:=hcell 0 (by omega)
  have hs:=World.cell?_spot h0
  have hb:=World.block_lt_of_cell? W _ h0
  obtain ⟨ab,ao,asp⟩:=a
  simp [Addr.add] at hs hb
  subst hs
  refine ⟨ab,ao,rfl,hb,fun i hi => ?_⟩
  rw [hlen] at hi
  have:=hcell i (by omega)
  rw [Addr.add_lit] at this
  rw [this,List.getD_eq_getElem?_getD,List.getD_eq_getElem?_getD,List.getElem?_take,if_pos hi]
theorem trodAll_stays {W' : World} {sp : Nat → Bool} : ∀ {ts : List TypeId} {vs : List Value} {ds : List (DataW H)} {p : List MemPlace},(∀ t ∈ ts,Tryz.prog.readableRec t = true ∧ t < Tryz.prog.types.size) → DataW.TrodAll enc Tryz.prog W 0 (fun _ => true) true ts vs ds p → (∀ x ∈ p,W.sameAt W' x) → (∀ x ∈ p,sp x.block = true) → DataW.TrodAll enc Tryz.prog W' 0 sp true ts vs ds p
 | [],_,_,_,_,h,_,_ => by
  obtain ⟨rfl,rfl,rfl⟩:=trodAll_nil h
  exact trodAll_mk0
 | t :: ts,_,_,_,hr,h,hs,hp => by
  obtain ⟨v,vs1,d,ds1,a,b,rfl,rfl,rfl,h1,h2⟩:=trodAll_cons h
  obtain ⟨r1,r2⟩:=hr t (by simp)
  exact trodAll_cons_mk (WideElems.Trod_stays laid_out r1 r2 h1 (fun x hx => hs x (by simp [hx])) (fun x hx => hp x (by simp [hx]))) (trodAll_stays (fun t' ht' => hr t' (by simp [ht'])) h2 (fun x hx => hs x (by simp [hx])) (fun x hx => hp x (by simp [hx])))
end
end Go.Proofs.YtcfcbabbgcckhaaGreatDoor

namespace Go.Proofs.YtcfcbabbgcckhaaGreatDoor
open Go.ChangeShapes Go.WideShapes Go.ChangeAt Go.RowKit
set_option maxHeartbeats 16000000
set_option maxRecDepth 100000
set_option linter.unusedVariables false
set_option linter.unusedSimpArgs false
theorem MkA.ret {q rows cols wd : Int} {N : Nat} {L : List Int} {w w' : World} {e : Ending} (h : MkA q rows cols wd N L w e w') : ∃ v,e = .returned v ∧ Kept w w':=by
 obtain ⟨k,⟨-,g,he,-,-⟩ | ⟨-,he⟩⟩:=h
 ·exact ⟨_,he,k⟩
 ·exact ⟨_,he,k⟩
theorem make_ret (kd rows cols wd va vb s t : Int) (ha : -9223372036854775808 ≤ va ∧ va ≤ 9223372036854775807) (hb : -9223372036854775808 ≤ vb ∧ vb ≤ 9223372036854775807) (w : World) (hT : Tab w) : Calls Tryz.prog 11 #[initV kd rows cols wd va vb,.int .i64 s,.int .i64 t] w fun e w' => ∃ v,e = .returned v ∧ Kept w w':=by
 obtain ⟨q,N,L,-,-,h⟩:=make_any kd rows cols wd va vb s t ha hb
 exact (h w hT).mono fun e w' h => h.ret
theorem startAgain_true (W : World) (hT : Tab W) (ki1 ro1 co1 wi1 va1 vb1 ki2 ro2 co2 wi2 va2 vb2 seed stream : Int) (p : Option Addr) (L : List Int) (cap : Nat) (w1 : (Lit.int .i64 va1).wf = true) (w2 : (Lit.int .i64 vb1).wf = true) (w3 : (Lit.int .i64 va2).wf = true) (w4 : (Lit.int .i64 vb2).wf = true) (hS : Sl W (.slice p L.length cap) L) : Calls Tryz.prog 6 #[initV ki1 ro1 co1 wi1 va1 vb1,initV ki2 ro2 co2 wi2 va2 vb2,.int .i64 seed,.int .i64 stream,.slice p L.length cap] W fun e w' => e = .returned (.bool true) ∧ Kept W w':=by
 have w1:=wf_rng _ w1
 have w2:=wf_rng _ w2
 have w3:=wf_rng _ w3
 have w4:=wf_rng _ w4
 obtain ⟨q,N,M,hM,hN,KM⟩:=make_any ki1 ro1 co1 wi1 va1 vb1 seed stream w1 w2
 have KA : ∀ u,Kept W u → Calls Tryz.prog 9 #[] u fun e w' => e = .returned (.bool true) ∧ Kept u w':=fun u k => alive16 u (hT.kept k)
 have KO:=fun u (i : Int) (k : Kept W u) => make_ret ki2 ro2 co2 wi2 va2 vb2 i stream w3 w4 u (hT.kept k)
 have KY:=fun u (i : Int) (k : Kept W u) => make_ret ki1 ro1 co1 wi1 va1 vb1 seed i w1 w2 u (hT.kept k)
 have K1:=fun u => light_any ki1 ro1 co1 wi1 va1 vb1 u
 have K2:=fun u => light_any ki2 ro2 co2 wi2 va2 vb2 u
 cases hq : (q == 0)
 ·refine again_walk ki1 ro1 co1 wi1 va1 vb1 ki2 ro2 co2 wi2 va2 vb2 seed stream p L cap _ _ q 0 0 0 0 (fun _ pp => pp = none) W hS (fun _ _ _ h _ => h) KA K1 K2 (fun u k => (KM u (hT.kept k)).mono ?_) KO KY (fun u v v' h h' => ?_)
  ·rintro e w' ⟨k',⟨h0,-⟩ | ⟨-,he⟩⟩
   ·rw [h0] at hq; exact absurd hq (by decide)
   ·exact ⟨none,he,rfl,k'⟩
  ·rw [h,h']
   exact same_nil u
 ·have hq : q = 0:=by simpa using hq
  refine again_walk ki1 ro1 co1 wi1 va1 vb1 ki2 ro2 co2 wi2 va2 vb2 seed stream p L cap _ _ q ro1 co1 wi1 N (fun u pp => ∃ g,pp = some ⟨g,0,none⟩ ∧ Own u g N M) W hS (fun u u' v h k => ?_) KA K1 K2 (fun u k => (KM u (hT.kept k)).mono ?_) KO KY (fun u v v' h h' => ?_)
  ·obtain ⟨g,rfl,ho⟩:=h
   exact ⟨g,rfl,ho.kept k⟩
  ·rintro e w' ⟨k',⟨-,g,he,-,ho⟩ | ⟨h0,-⟩⟩
   ·exact ⟨_,by rw [hq]; exact he,⟨g,rfl,ho⟩,k'⟩
   ·rw [hq] at h0; exact absurd h0 (by decide)
  ·obtain ⟨g,rfl,ho⟩:=h
   obtain ⟨g',rfl,ho'⟩:=h'
   exact same_walk ro1 co1 wi1 N (by omega) M hM g g' u ho ho'
end Go.Proofs.YtcfcbabbgcckhaaGreatDoor

namespace Go.Proofs.YtcfcbabbgcckhaaGreatDoor
open Go.ChangeShapes Go.WideShapes Go.ChangeAt Go.RowKit Go.Joins
set_option maxHeartbeats 16000000
set_option maxRecDepth 100000
set_option linter.unusedVariables false
set_option linter.unusedSimpArgs false
theorem cells_init : Tryz.prog.cellsOf 23 = 6:=by kernel_rfl
section
variable {H : Type} {enc : TypeId × Value → H} {W : World}
theorem array6j {cs : Array Value} (h : cs.size = 6) : ∃ c0 c1 c2 c3 c4 c5,cs = #[c0,c1,c2,c3,c4,c5]:=by
 obtain ⟨l⟩:=cs
 match l,h with
 | [c0,c1,c2,c3,c4,c5],_ => exact ⟨c0,c1,c2,c3,c4,c5,rfl⟩
theorem open_init {b0 : Nat} {v : Value} {d : DataW H} {p : List MemPlace} (hv : Value.okWide Tryz.prog W .any b0 23 v) (h : DataW.Trod enc Tryz.prog W 0 (fun _ => true) true 23 v d p) :
  ∃ (k r c n a b : Int),v = .agg #[.int .i64 k,.int .i64 r,.int .i64 c,.int .i64 n,.int .i64 a,.int .i64 b] ∧ (Lit.int .i64 a).wf = true ∧ (Lit.int .i64 b).wf = true:=by
 obtain ⟨cs,rfl,hsz⟩:=okWide_struct Tryz.underlying23 hv
 obtain ⟨c0,c1,c2,c3,c4,c5,rfl⟩:=array6j (hsz.trans cells_init)
 obtain ⟨fuel,hf⟩:=h
 obtain ⟨xs,n,-,-,-,hlen,hg⟩:=DataW.trod_struct Tryz.underlying23 hf
 match xs,hlen with
 | [y0,y1,y2,y3,y4,y5],_ =>
  have h0 := hg 0 { name := "Kind", type := 3, offset := 0, embedded := false, tag := "", pkgPath := "", byteOffset := 0 } rfl
  have h1 := hg 1 { name := "Rows", type := 3, offset := 1, embedded := false, tag := "", pkgPath := "", byteOffset := 8 } rfl
  have h2 := hg 2 { name := "Cols", type := 3, offset := 2, embedded := false, tag := "", pkgPath := "", byteOffset := 16 } rfl
  have h3 := hg 3 { name := "Width", type := 3, offset := 3, embedded := false, tag := "", pkgPath := "", byteOffset := 24 } rfl
  have h4 := hg 4 { name := "A", type := 3, offset := 4, embedded := false, tag := "", pkgPath := "", byteOffset := 32 } rfl
  have h5 := hg 5 { name := "B", type := 3, offset := 5, embedded := false, tag := "", pkgPath := "", byteOffset := 40 } rfl
  simp only [Value.cells,cells_int,List.drop_zero,List.drop_succ_cons,List.take_succ_cons,List.take_zero,List.getElem?_cons_zero,List.getElem?_cons_succ] at h0 h1 h2 h3 h4 h5
  obtain ⟨x0,e0,-,w0⟩:=DataW.trod_int Tryz.underlying3 h0
  obtain ⟨x1,e1,-,w1⟩:=DataW.trod_int Tryz.underlying3 h1
  obtain ⟨x2,e2,-,w2⟩:=DataW.trod_int Tryz.underlying3 h2
  obtain ⟨x3,e3,-,w3⟩:=DataW.trod_int Tryz.underlying3 h3
  obtain ⟨x4,e4,-,w4⟩:=DataW.trod_int Tryz.underlying3 h4
  obtain ⟨x5,e5,-,w5⟩:=DataW.trod_int Tryz.underlying3 h5
  simp only [Value.cells,cells_int,List.drop_zero,List.drop_succ_cons,List.take_succ_cons,List.take_zero,List.cons.injEq,and_true] at e0 e1 e2 e3 e4 e5
  subst e0 e1 e2 e3 e4 e5
  exact ⟨x0,x1,x2,x3,x4,x5,rfl,w4,w5⟩
end
end Go.Proofs.YtcfcbabbgcckhaaGreatDoor
