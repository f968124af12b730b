/- Lists that are grown by zero elements: in place,or a new row; the list itself stays. A list put behind a list; all matrices of a state,one behind the other. What is kept of states that were read,as it lies; what is written into it,or grown,leaves the rest. -/
import Derived.Test.YtocjfdiimapojaaVG
import Derived.Test.YtocjfdiimapojaaVM
namespace Go.Proofs.Ytocjfdiimapojaa
open Go.ChangeShapes Go.WideShapes Go.ChangeAt Go.RowKit
set_option maxHeartbeats 16000000
set_option maxRecDepth 100000
set_option linter.unusedVariables false
set_option linter.unusedSimpArgs false
theorem int3y : Try.prog.underlying 3 = some (.int .i64):=by kernel_rfl
theorem zeroCells_mem (zs : Array Value) (n : Nat) (hz : 0 < zs.size) (u : Value) (hu : u ∈ (Builtin.zeroCells zs n).toList) : u ∈ zs.toList:=by
 simp only [Builtin.zeroCells,Array.toList_map,List.mem_map,Array.toList_range,List.mem_range] at hu
 obtain ⟨i,hi,rfl⟩:=hu
 have h : i % zs.size < zs.size:=Nat.mod_lt _ hz
 rw [getElem!_pos zs _ h]
 exact Array.getElem_mem_toList h
section
variable (t e : TypeId) (ht : Try.prog.underlying t = some (.slice e)) (z : Value) (sz by8 : Nat) (hinf : (Try.prog.info? e).map (fun i => (i.zero,i.size,i.bytes)) = some (some z,sz,by8)) (hz : z.cells.size = sz) (hz0 : 0 < sz) (hby : by8 ≤ 64) (h1 : ∀ u ∈ z.cells.toList,u.oneCell' = true)
include ht hinf hz hz0 hby h1
theorem zrun_room (w : World) (ty : TypeId) (b sLen sCap n : Nat) (hn : 0 < n) (hs : n < 1000000) (hroom : sLen + n ≤ sCap) (hc : ∀ j,j < n * sz → (w.cell? ⟨b,sLen * sz + j,none⟩).isSome = true) (hf : ∀ j,j < n * sz → w.frozen? ⟨b,sLen * sz + j,none⟩ = false) :
  (Builtin.append_ #[t,3] ty #[.slice (some ⟨b,0,none⟩) sLen sCap,.int .i64 (n : Int)]).run Try.prog w = .ok (.slice (some ⟨b,0,none⟩) (sLen + n) sCap) (w.setCells b (sLen * sz) (Builtin.zeroCells z.cells n).toList):=by
 obtain ⟨i,hi,hzz,hsz,hb⟩:=info_parts hinf
 have hw1 : IntKind.i64.wrap (n : Int) = (n : Int):=by rw [wrap_i64]; omega
 have e0 : ¬ ((n : Int) < 0):=by omega
 have e1 : ¬ (281474976710656 < (n : Int) * (by8 : Int)):=by
  have h2 : (n : Int) * (by8 : Int) ≤ 1000000 * 64:=Int.mul_le_mul (by omega) (by omega) (by omega) (by omega)
  omega
 have e2 : n ≠ 0:=by omega
 have e3 : sz ≠ 0:=by omega
 have e4 : n * sz ≠ 0:=Nat.mul_ne_zero e2 e3
 have hst:=run_storeCells_cells (P:=Try.prog) b (sLen * sz) (Builtin.zeroCells z.cells n).toList 0 w (by simpa [size_zeroCells,hz] using hc) (by simpa [size_zeroCells,hz] using hf) (fun u hu => h1 u (zeroCells_mem _ _ (by omega) u hu))
 simp only [Nat.add_zero] at hst
 simp [Builtin.append_,run_underlying ht,run_underlying int3y,sizeOf,typeInfo,hi,hsz,hb,hzz,asInt,asIntOf,hw1,e0,e1,e2,e3,e4,zeroValue,hroom,Addr.add_lit,hst]
omit hz h1 in
theorem zrun_grow (w : World) (ty : TypeId) (base : Option Addr) (sLen sCap n : Nat) (olds : List Value) (hold : (Builtin.firstCells sz sLen (.slice base sLen sCap)).run Try.prog w.drew = .ok olds.toArray w.drew) (hn : 0 < n) (hs : sLen + n < 100000000) (hs2 : n < 1000000) (hg : sCap < sLen + n) :
  (Builtin.append_ #[t,3] ty #[.slice base sLen sCap,.int .i64 (n : Int)]).run Try.prog w = .ok (.slice (some ⟨w.heap.size,0,none⟩) (sLen + n) (grownCap w (sLen + n) sCap e)) (w.drew.alloc (.cells ((olds ++ (Builtin.zeroCells z.cells n).toList).toArray ++ Builtin.zeroCells z.cells (grownCap w (sLen + n) sCap e - (sLen + n))) e)):=by
 obtain ⟨i,hi,hzz,hsz,hb⟩:=info_parts hinf
 have hw1 : IntKind.i64.wrap (n : Int) = (n : Int):=by rw [wrap_i64]; omega
 have e0 : ¬ ((n : Int) < 0):=by omega
 have e1 : ¬ (281474976710656 < (n : Int) * (by8 : Int)):=by
  have h2 : (n : Int) * (by8 : Int) ≤ 1000000 * 64:=Int.mul_le_mul (by omega) (by omega) (by omega) (by omega)
  omega
 have e2 : n ≠ 0:=by omega
 have e3 : sz ≠ 0:=by omega
 have e4 : n * sz ≠ 0:=Nat.mul_ne_zero e2 e3
 have hn' : ¬ (sLen + n ≤ sCap):=by omega
 have h63 : ¬ (9223372036854775807 < ((sLen : Int) + (n : Int))):=by omega
 have hgf : Builtin.nextslicecap (sLen + n) sCap * by8 ≤ 281474976710656:=growslice_fits hg (Nat.le_trans (Nat.mul_le_mul_left _ hby) (by omega))
 have h48 : ¬ (281474976710656 < Builtin.nextslicecap (sLen + n) sCap * by8):=by omega
 simp [Builtin.append_,run_underlying ht,run_underlying int3y,sizeOf,typeInfo,hi,hsz,hb,hzz,asInt,asIntOf,hw1,e0,e1,e2,e3,e4,zeroValue,hn',h63,h48,Question.forced,hold,newRow,grownCap]
 refine congrArg (fun c => World.alloc _ (Obj.cells c e)) ?_
 apply Array.ext'
 simp
/-- Grown by n zero elements: in place,or a new row. -/
theorem zgrow (w : World) (lv : Value) (k : Nat) (V : List Value) (hM : MS sz e 0 w lv k V) (n : Nat) (hn : 0 < n) (hn2 : n < 1000000) (hk : k < 1000000) :
  ∃ g cap w',(∀ ty,(Builtin.append_ #[t,3] ty #[lv,.int .i64 (n : Int)]).run Try.prog w = .ok (.slice (some ⟨g,0,none⟩) (k + n) cap) w') ∧ OwnS w' g cap sz e (V ++ (Builtin.zeroCells z.cells n).toList) ∧ ((g = w.heap.size ∧ Kept w w') ∨ (lv = .slice (some ⟨g,0,none⟩) k cap ∧ Grw g w w')):=by
 have hzl : (Builtin.zeroCells z.cells n).toList.length = n * sz:=by simp [size_zeroCells,hz]
 have hVl:=hM.len
 obtain ⟨i,hi,hzz,hsz,hb⟩:=info_parts hinf
 have key : ∀ (base : Option Addr) (sCap : Nat),lv = .slice base k sCap → sCap < k + n → (Builtin.firstCells sz k (.slice base k sCap)).run Try.prog w.drew = .ok V.toArray w.drew → ∃ g cap w',(∀ ty,(Builtin.append_ #[t,3] ty #[lv,.int .i64 (n : Int)]).run Try.prog w = .ok (.slice (some ⟨g,0,none⟩) (k + n) cap) w') ∧ OwnS w' g cap sz e (V ++ (Builtin.zeroCells z.cells n).toList) ∧ ((g = w.heap.size ∧ Kept w w') ∨ (lv = .slice (some ⟨g,0,none⟩) k cap ∧ Grw g w w')):=fun base sCap e1 hc hf => by
  subst e1
  obtain ⟨C,hC⟩ : ∃ C,grownCap w (k + n) sCap e = C:=⟨_,rfl⟩
  have hC1 : k + n ≤ C:=by rw [← hC]; exact grownCap_ge _ _ _ _
  have hC2 : C ≤ maxLen:=by rw [← hC]; exact grownCap_le_maxLen _ _ _ _ (by simp [maxLen]; omega)
  have hN:=ownS_new w.drew e z sz hz (V ++ (Builtin.zeroCells z.cells n).toList) (k + n) C (by rw [List.length_append,hVl,hzl,Nat.add_mul]) hC1 hC2
  have hKN : Kept w (w.drew.alloc (.cells ((V ++ (Builtin.zeroCells z.cells n).toList).toArray ++ Builtin.zeroCells z.cells (C - (k + n))) e)):=(Kept.refl w).drew.alloc _ _
  refine ⟨w.heap.size,C,_,fun ty => ?_,by simpa using hN,.inl ⟨rfl,hKN⟩⟩
  have:=zrun_grow t e ht z sz by8 hinf hz0 hby w ty base k sCap n V hf hn (by omega) hn2 hc
  rw [hC] at this
  rw [this]
 rcases hM with ⟨rfl,rfl,rfl⟩ | ⟨g,cap,rfl,-,-,hkc,hO⟩
 ·exact key none 0 rfl (by omega) (by simpa using run_firstCells_none (P:=Try.prog) w.drew sz 0 0 0)
 ·by_cases hr : k + n ≤ cap
  ·have hroom : V.length + (Builtin.zeroCells z.cells n).toList.length ≤ cap * sz:=by
    rw [hVl,hzl,← Nat.add_mul]
    exact Nat.mul_le_mul_right _ hr
   have hG:=(Grw.refl g w).setCells (Builtin.zeroCells z.cells n).toList V.length
   refine ⟨g,cap,w.setCells g V.length (Builtin.zeroCells z.cells n).toList,fun ty => ?_,hO.pushes _ hroom,.inr ⟨rfl,hG⟩⟩
   rw [hVl]
   exact zrun_room t e ht z sz by8 hinf hz hz0 hby h1 w ty g k cap n hn hn2 hr (fun j hj => hO.some _ (by rw [hVl,hzl] at hroom; omega)) (fun j hj => hO.free _)
  ·exact key _ cap rfl (by omega) (run_firstCells_some (P:=Try.prog) w.drew sz k ⟨g,0,none⟩ k cap V hVl (fun j u hu => by rw [Addr.add_lit,Nat.zero_add]; exact hO.cell j u hu))
/-- .. and one of the new cells is written: the list itself stays. -/
theorem zmark (w : World) (lv : Value) (k : Nat) (V : List Value) (hM : MS sz e 0 w lv k V) (n : Nat) (hn : 0 < n) (hn2 : n < 1000000) (hk : k < 1000000) :
  ∃ g cap w',(∀ ty,(Builtin.append_ #[t,3] ty #[lv,.int .i64 (n : Int)]).run Try.prog w = .ok (.slice (some ⟨g,0,none⟩) (k + n) cap) w') ∧ KX (fun b => ∃ n c,lv = .slice (some ⟨b,0,none⟩) n c) w w' ∧ MS sz e 0 w' lv k V ∧ g < w'.heap.size ∧ (g < w.heap.size → ∃ n c,lv = .slice (some ⟨g,0,none⟩) n c) ∧ (∀ j,j < (k + n) * sz → ∃ x,w'.cell? ⟨g,j,none⟩ = some x) ∧ (∀ j,w'.frozen? ⟨g,j,none⟩ = false) ∧
   ∀ wx,KX (fun b => b = g) w' wx → (∀ cur,w'.heap[g]? = some (.cells cur e (0,0)) → ∃ j x,k * sz ≤ j ∧ wx.heap[g]? = some (.cells (cur.setIfInBounds j x) e (0,0))) → KX (fun b => ∃ n c,lv = .slice (some ⟨b,0,none⟩) n c) w wx ∧ MS sz e 0 wx lv k V:=by
 have hVl:=hM.len
 obtain ⟨g,cap,w',hr,hO,hk2⟩:=zgrow t e ht z sz by8 hinf hz hz0 hby h1 w lv k V hM n hn hn2 hk
 have hzl : (Builtin.zeroCells z.cells n).toList.length = n * sz:=by simp [size_zeroCells,hz]
 have hcap : (k + n) * sz ≤ cap * sz:=by
  obtain ⟨cur,-,h2,-⟩:=hO
  rw [List.length_append,hVl,hzl,← Nat.add_mul] at h2
  exact h2
 have hkc : k ≤ cap:=by
  have:=Nat.le_of_mul_le_mul_right hcap hz0
  omega
 have hkx : KX (fun b => ∃ n c,lv = .slice (some ⟨b,0,none⟩) n c) w w':=by
  rcases hk2 with ⟨-,kk⟩ | ⟨e1,kk⟩
  ·exact kk.kx _
  ·exact kk.kx.mono fun b hb => by subst hb; exact ⟨_,_,e1⟩
 have hpre : ∀ wx,OwnS wx g cap sz e V → lv = .slice (some ⟨g,0,none⟩) k cap → MS sz e 0 wx lv k V:=fun wx ho e1 => .inr ⟨g,cap,e1,Nat.zero_le _,hVl,hkc,ho⟩
 have htake : ∀ {wx : World} {N : List Value},OwnS wx g cap sz e (V ++ N) → OwnS wx g cap sz e V:=fun {wx N} ⟨cur,a1,a2,a3,a4,a5⟩ => ⟨cur,a1,by rw [List.length_append] at a2; omega,a3,a4,by
  have:=congrArg (List.take V.length) a5
  rw [List.take_take,List.length_append,Nat.min_eq_left (by omega),List.take_left] at this
  exact this⟩
 refine ⟨g,cap,w',hr,hkx,?_,hO.lt,fun hg => ?_,fun j hj => Option.isSome_iff_exists.1 (hO.some j (by omega)),fun j => hO.free j,fun wx kx hw => ⟨?_,?_⟩⟩
 ·rcases hk2 with ⟨-,kk⟩ | ⟨e1,kk⟩
  ·exact hM.kept kk
  ·exact hpre _ (htake hO) e1
 ·rcases hk2 with ⟨e1,-⟩ | ⟨e1,-⟩
  ·omega
  ·exact ⟨_,_,e1⟩
 ·rcases hk2 with ⟨e1,kk⟩ | ⟨e1,kk⟩
  ·exact ⟨kx.os.trans hkx.os,kx.tape.trans hkx.tape,kx.output.trans hkx.output,Nat.le_trans hkx.size kx.size,fun i hi hx => (kx.block i (Nat.lt_of_lt_of_le hi hkx.size) (by omega)).trans (hkx.block i hi hx),fun a => (kx.frozen a).trans (hkx.frozen a)⟩
  ·exact hkx.trans (kx.mono fun b hb => by subst hb; exact ⟨_,_,e1⟩)
 ·rcases hk2 with ⟨e1,kk⟩ | ⟨e1,kk⟩
  ·rcases hM with h | ⟨b,c,a1,a2,a3,a4,a5⟩
   ·exact .inl h
   ·have hb:=a5.lt
    exact .inr ⟨b,c,a1,a2,a3,a4,(a5.kept kk).on (kx.block b (Nat.lt_of_lt_of_le hb kk.below.size) (by omega))⟩
  ·refine hpre _ ?_ e1
   obtain ⟨cur,a1,a2,a3,a4,a5⟩:=htake hO
   obtain ⟨j,x,hj,hw2⟩:=hw cur a1
   refine ⟨_,hw2,a2,a3,by simpa using a4,?_⟩
   rw [Array.toList_setIfInBounds,List.take_set_of_le (by omega)]
   exact a5
end
end Go.Proofs.Ytocjfdiimapojaa

namespace Go.Proofs.Ytocjfdiimapojaa
open Go.ChangeShapes Go.WideShapes Go.ChangeAt Go.RowKit
set_option maxHeartbeats 16000000
set_option maxRecDepth 100000
set_option linter.unusedVariables false
set_option linter.unusedSimpArgs false
theorem app_list (t e : TypeId) (ht : Try.prog.underlying t = some (.slice e)) (z : Value) (sz by8 : Nat) (hinf : (Try.prog.info? e).map (fun i => (i.zero,i.size,i.bytes)) = some (some z,sz,by8)) (hz : z.cells.size = sz) (hby : by8 ≤ 64)
  (H : Nat) (w : World) (lv : Value) (k : Nat) (V : List Value) (hM : MS sz e H w lv k V) (xv : Value) (k2 : Nat) (V2 : List Value) (hX : MS sz e 0 w xv k2 V2) (h1 : ∀ u ∈ V2,u.oneCell' = true) (hH : H ≤ w.heap.size) (hlen : k + k2 < 1000000) :
  ∃ v' w',(∀ ty,(Builtin.append_ #[t,t] ty #[lv,xv]).run Try.prog w = .ok v' w') ∧ MS sz e H w' v' (k + k2) (V ++ V2) ∧ KX (fun b => ∃ n c,lv = .slice (some ⟨b,0,none⟩) n c) w w':=by
 obtain ⟨i,hi,hz2,hs,hb⟩:=info_parts hinf
 have hVl:=hM.len
 have hXl:=hX.len
 have hS : Src Try.prog i.size t xv k2 V2 w:=by
  rcases hX with ⟨rfl,rfl,rfl⟩ | ⟨g,cap,rfl,-,-,hkc,hO⟩
  ·exact Src.ofNil w ht 0
  ·exact Src.ofSlice w ht ⟨g,0,none⟩ k2 cap V2 (by rw [hs]; exact hXl) (fun j u hj => by rw [Addr.add_lit,Nat.zero_add]; exact hO.cell j u hj) h1
 have hnl : (V ++ V2).length = (k + k2) * sz:=by rw [List.length_append,hVl,hXl,Nat.add_mul]
 have grow : ∀ (base : Option Addr) (cap : Nat),lv = .slice base k cap → cap < k + k2 → (Builtin.firstCells i.size k (.slice base k cap)).run Try.prog w.drew = .ok V.toArray w.drew → ∃ v' w',(∀ ty,(Builtin.append_ #[t,t] ty #[lv,xv]).run Try.prog w = .ok v' w') ∧ MS sz e H w' v' (k + k2) (V ++ V2) ∧ KX (fun b => ∃ n c,lv = .slice (some ⟨b,0,none⟩) n c) w w':=fun base cap e1 hc hf => by
  subst e1
  obtain ⟨C,hC⟩ : ∃ C,grownCap w (k + k2) cap e = C:=⟨_,rfl⟩
  have hC1 : k + k2 ≤ C:=by rw [← hC]; exact grownCap_ge _ _ _ _
  have hC2 : C ≤ maxLen:=by rw [← hC]; exact grownCap_le_maxLen _ _ _ _ (by simp [maxLen]; omega)
  have hN:=ownS_new w.drew e z sz hz (V ++ V2) (k + k2) C hnl hC1 hC2
  have hKN : Kept w (w.drew.alloc (.cells ((V ++ V2).toArray ++ Builtin.zeroCells z.cells (C - (k + k2))) e)):=(Kept.refl w).drew.alloc _ _
  refine ⟨_,_,fun ty => ?_,.inr ⟨w.heap.size,C,rfl,by omega,hnl,hC1,by simpa using hN⟩,hKN.kx _⟩
  have:=run_append_grow_src w t t ty e i z ht hi hz2 base k cap V hf xv k2 V2 hS hc (by omega) (growslice_fits hc (by rw [hb]; exact Nat.le_trans (Nat.mul_le_mul_left _ hby) (by omega)))
  rw [hC] at this
  rw [this]
 rcases hM with ⟨rfl,rfl,rfl⟩ | ⟨g,cap,rfl,hg,-,hkc,hO⟩
 ·by_cases h0 : k2 = 0
  ·subst h0
   have hV2 : V2 = []:=List.length_eq_zero_iff.1 (by omega)
   subst hV2
   refine ⟨.slice none 0 0,w,fun ty => ?_,.inl ⟨rfl,rfl,rfl⟩,(Kept.refl w).kx _⟩
   rcases hS.kind with ⟨e',hk⟩ | hk <;> simp [Builtin.append_,run_underlying ht,run_underlying hk,sizeOf,typeInfo,hi,hS.len,hS.cells]
  ·exact grow none 0 rfl (by omega) (by simpa using run_firstCells_none (P:=Try.prog) w.drew i.size 0 0 0)
 ·by_cases hr : k + k2 ≤ cap
  ·have hroom : V.length + V2.length ≤ cap * sz:=by
    rw [hVl,hXl,← Nat.add_mul]
    exact Nat.mul_le_mul_right _ hr
   have hG:=(Grw.refl g w).setCells V2 V.length
   refine ⟨_,w.setCells g V.length V2,fun ty => ?_,.inr ⟨g,cap,rfl,hg,hnl,hr,hO.pushes V2 hroom⟩,(hG.kx).mono fun b hb => by subst hb; exact ⟨_,_,rfl⟩⟩
   have:=run_append_room_src w t t ty e i ht hi g 0 k cap xv k2 V2 hS hr (fun j hj => hO.some _ (by rw [hs,← hVl]; omega)) (fun j hj => hO.free _)
   rw [this,hs,hVl]
   simp
  ·exact grow (some ⟨g,0,none⟩) cap rfl (by omega) (run_firstCells_some (P:=Try.prog) w.drew i.size k ⟨g,0,none⟩ k cap V (by rw [hs]; exact hVl) (fun j u hu => by rw [Addr.add_lit,Nat.zero_add]; exact hO.cell j u hu))
/-- A state,and the cells of its lists. -/
structure KE where
 s : Sta
 pv : Value
 VP : List Value
 qv : Value
 vs : List Value
 VQ : List (List Value)
/-- Its lists,where they lie. -/
structure KE.ok (x : KE) (w : World) : Prop where
 p : MS 4 54 0 w x.pv x.s.P.length x.VP
 q : MS 1 32 0 w x.qv x.s.Q.length x.vs
 ql : x.VQ.length = x.s.Q.length
 l : ∀ (j : Nat) (l : List Mat) (V : List Value),x.s.Q[j]? = some l → x.VQ[j]? = some V → ∃ lv,x.vs[j]? = some lv ∧ MS 4 54 0 w lv l.length V
 o : ∀ u ∈ x.VP ++ x.VQ.flatten,u.oneCell' = true
 n : x.s.P.length ≤ 64 ∧ x.s.Q.length ≤ 64 ∧ ∀ l ∈ x.s.Q,l.length ≤ 4
 sl : ∀ (j : Nat) (d : Value),(x.VP ++ x.VQ.flatten)[j * 4 + 3]? = some d → ∃ a n c,d = .slice a n c
def KE.val (x : KE) : Value:=.agg #[.int .i64 x.s.a,.int .i64 x.s.b,.int .i64 x.s.d,x.pv,x.qv,.int .i64 x.s.lo,.int .i64 x.s.ra]
def KE.V (x : KE) : List Value:=x.VP ++ x.VQ.flatten
def KE.ms (x : KE) : List Mat:=x.s.P ++ x.s.Q.flatten
theorem flat_take_succ {α : Type} (Q : List (List α)) (i : Nat) (l : List α) (h : Q[i]? = some l) : (Q.take (i + 1)).flatten = (Q.take i).flatten ++ l:=by
 rw [List.take_add_one,h]
 simp
theorem flat_take_le (Q : List (List Mat)) (hq : ∀ l ∈ Q,l.length ≤ 4) : ∀ i,(Q.take i).flatten.length ≤ i * 4
 | 0 => by simp
 | i + 1 => by
  rcases h : Q[i]? with _ | l
  ·have hl : Q.length ≤ i:=List.getElem?_eq_none_iff.1 h
   rw [List.take_of_length_le (by omega)]
   have:=flat_take_le Q hq i
   rw [List.take_of_length_le (by omega)] at this
   omega
  ·rw [flat_take_succ Q i l h,List.length_append]
   have:=flat_take_le Q hq i
   have:=hq l (List.mem_of_getElem? h)
   omega
theorem KE.ok.kept {x : KE} {w w' : World} (h : x.ok w) (k : Kept w w') : x.ok w' :=
 ⟨h.p.kept k,h.q.kept k,h.ql,fun j l V h1 h2 => by
  obtain ⟨lv,h3,h4⟩:=h.l j l V h1 h2
  exact ⟨lv,h3,h4.kept k⟩,h.o,h.n,h.sl⟩
theorem matrices_any (x : KE) (w : World) (hx : x.ok w) : Calls Try.prog 36 #[x.val] w fun e w' => Kept w w' ∧ ∃ v,e = .returned v ∧ MS 4 54 w.heap.size w' v x.ms.length x.V:=by
 obtain ⟨s,pv,VP,qv,vs,VQ⟩:=x
 have HX:=hid hx
 have hxp:=hx.p
 have hxq:=hx.q
 have hxl:=hx.l
 have hxo:=hx.o
 have hxn:=hx.n
 have hxql:=hx.ql
 dsimp only at hxp hxq hxl hxo hxn hxql
 show Calls _ _ #[.agg #[.int .i64 s.a,.int .i64 s.b,.int .i64 s.d,pv,qv,.int .i64 s.lo,.int .i64 s.ra]] w _
 obtain ⟨pa,pc,rfl⟩:=hxp.form
 obtain ⟨qa,qc,rfl⟩:=hxq.form
 obtain ⟨a,ha⟩ : ∃ a,s.a = a:=⟨_,rfl⟩
 obtain ⟨b,hb⟩ : ∃ b,s.b = b:=⟨_,rfl⟩
 obtain ⟨d,hd⟩ : ∃ d,s.d = d:=⟨_,rfl⟩
 obtain ⟨lo,hlo⟩ : ∃ lo,s.lo = lo:=⟨_,rfl⟩
 obtain ⟨ra,hra⟩ : ∃ ra,s.ra = ra:=⟨_,rfl⟩
 obtain ⟨np,hnp⟩ : ∃ np,s.P.length = np:=⟨_,rfl⟩
 obtain ⟨nq,hnq⟩ : ∃ nq,s.Q.length = nq:=⟨_,rfl⟩
 obtain ⟨M,hM⟩ : ∃ M,w.heap.size = M:=⟨_,rfl⟩
 have hml : (KE.mk s (.slice pa s.P.length pc) VP (.slice qa s.Q.length qc) vs VQ).ms.length = np + s.Q.flatten.length:=by rw [← hnp]; exact List.length_append
 rw [hml]
 obtain ⟨fl,hfl⟩ : ∃ fl,s.Q.flatten.length = fl:=⟨_,rfl⟩
 rw [hfl]
 have HFl:=hid hfl
 clear hfl
 rw [ha,hb,hd,hlo,hra,hnp,hnq,hM]
 rw [hnp] at hxp hxn
 rw [hnq] at hxq hxql hxn
 obtain ⟨W1,hW1⟩ : ∃ W1,w.alloc (.cells #[.int .i64 a,.int .i64 b,.int .i64 d,.slice pa np pc,.slice qa nq qc,.int .i64 lo,.int .i64 ra] 35) = W1:=⟨_,rfl⟩
 have k0 : Kept w W1:=by rw [← hW1]; exact (Kept.refl w).alloc _ _
 have bk : Bk W1 M [.int .i64 a,.int .i64 b,.int .i64 d,.slice pa np pc,.slice qa nq qc,.int .i64 lo,.int .i64 ra]:=by rw [← hW1,← hM]; exact Bk.new w _ _
 have hs1 : W1.heap.size = M + 1:=by rw [← hW1,World.size_alloc,hM]
 obtain ⟨v1,w1,hr1,hm1,kx1⟩:=app_list 32 54 mat_under (.agg #[.int .i64 0,.int .i64 0,.int .i64 0,.slice none 0 0]) 4 48 mat_info rfl (by decide) (M + 1) W1 (.slice none 0 0) 0 [] (.inl ⟨rfl,rfl,rfl⟩) (.slice pa np pc) np VP (hxp.kept k0) (fun u hu => hxo u (List.mem_append_left _ hu)) (by omega) (by omega)
 have kp1 : Kept W1 w1:=kept_of_kx (Kept.refl W1) kx1 (fun b ⟨n,c,e⟩ => by cases e)
 obtain ⟨va,vc,rfl⟩:=hm1.form
 rw [Nat.zero_add] at hr1 hm1
 rw [List.nil_append] at hm1
 have HR1:=hid hr1
 have HM1:=hid hm1
 have KP1:=hid (k0.trans kp1)
 have HB1:=hid (bk.kept kp1)
 have HS1:=hid (show M + 1 ≤ w1.heap.size by have:=kp1.below.size; omega)
 have HQ:=hid hxq
 have HL:=hid hxl
 have HO:=hid hxo
 have HN:=hid hxn
 have HNQ:=hid hnq
 have HVQ:=hid hxql
 have HMM:=hid hM
 have e3:=bk.c 3 _ rfl
 obtain ⟨cn,hcn⟩ : ∃ cn : Nat → Nat,∀ i,(s.Q.take i).flatten.length = cn i:=⟨_,fun _ => rfl⟩
 have HCn:=hid hcn
 have hc0 : cn 0 = 0:=by rw [← hcn 0]; simp
 have HC0:=hid hc0
 clear hcn hc0
 clear hx hr1 hm1 kx1 k0 bk hxp hxq hxl hxo hxn hs1 kp1 ha hb hd hlo hra hnp hnq hml hxql
 go_enter Try.func36,Try.ntmps36
 go_wp2_with (first | (at_builtin; (try rw [hW1]); refine wpList_append_run rfl _ _ _ rfl _ _ rfl rfl _ _ (HR1.out _) ?_; clear HR1))
 clear e3 hM
 (try rw [HMM.out])
 go_loopw [3,4] (fun lv iv wr => ∃ (i : Nat) (va : Option Addr) (vc : Nat),i ≤ nq ∧ lv = .slice va (np + cn i) vc ∧ iv = .int .i64 (i : Int) ∧ KX (fun b => M + 1 ≤ b) w1 wr ∧ MS 4 54 (M + 1) wr (.slice va (np + cn i) vc) (np + cn i) (VP ++ (VQ.take i).flatten)) (fun _ iv _ => nq - (intOf iv).toNat)
 case atStart => exact ⟨0,va,vc,Nat.zero_le _,by rw [HC0.out]; rfl,rfl,(Kept.refl _).kx _,by rw [HC0.out]; simpa using HM1.out⟩
 case round =>
  clear HM1
  obtain ⟨i,va,vc,hi,rfl,rfl,kxr,hm⟩:=hrel
  have hb:=HB1.out
  have KXr:=hid kxr
  have hbr : ∀ j v,[Value.int .i64 a,.int .i64 b,.int .i64 d,.slice pa np pc,.slice qa nq qc,.int .i64 lo,.int .i64 ra][j]? = some v → wr.cell? ⟨M,j,none⟩ = some v:=fun j v hj => (World.cell?_of_block (kxr.block M hb.lt (by omega))).trans (hb.c j v hj)
  have e4:=hbr 4 _ rfl
  have HMr:=hid hm
  clear hb hbr kxr hm
  by_cases hin : i < nq
  ·have d1 : decide ((i : Int) < (nq : Int)) = true:=decide_eq_true (by omega)
   have d2 : decide (i < nq) = true:=decide_eq_true hin
   have hbd : (0 : Int) ≤ (i : Int) ∧ (i : Int) < (nq : Int):=by omega
   have z9 : IntKind.i64.wrap ((i : Int) + 1) = (i : Int) + 1:=by have:=HN.out; rw [wrap_i64]; omega
   obtain ⟨l,hl⟩ : ∃ l,s.Q[i]? = some l:=⟨_,List.getElem?_eq_getElem (by have:=HNQ.out; omega)⟩
   obtain ⟨V,hV⟩ : ∃ V,VQ[i]? = some V:=⟨_,List.getElem?_eq_getElem (by have:=HVQ.out; omega)⟩
   obtain ⟨lv,hlv,hlm⟩:=HL.out i l V hl hV
   have hwr : Kept w wr:=kept_of_kx KP1.out KXr.out (fun b hb => by have:=HMM.out; omega)
   have hq9 : ∃ qb,qa = some ⟨qb,0,none⟩ ∧ wr.cell? ⟨qb,i,none⟩ = some lv:=by
    rcases HQ.out.kept hwr with ⟨h0,-,-⟩ | ⟨g,cap,e1,-,-,-,ho⟩
    ·omega
    ·cases e1
     exact ⟨g,rfl,ho.cell i _ hlv⟩
   obtain ⟨qb,rfl,eq9⟩:=hq9
   obtain ⟨v',w',hr,hm',kx'⟩:=app_list 32 54 mat_under (.agg #[.int .i64 0,.int .i64 0,.int .i64 0,.slice none 0 0]) 4 48 mat_info rfl (by decide) (M + 1) wr _ _ _ HMr.out lv l.length V (hlm.kept hwr) (fun u hu => HO.out u (List.mem_append_right _ (List.mem_flatten.2 ⟨V,List.mem_of_getElem? hV,hu⟩))) (by have:=KXr.out.size; have:=HS1.out; omega) (by
    have:=flat_take_le s.Q HN.out.2.2 i
    rw [HCn.out] at this
    have:=HN.out.2.2 l (List.mem_of_getElem? hl)
    have:=HN.out
    omega)
   have hll : np + cn i + l.length = np + cn (i + 1):=by rw [← HCn.out i,← HCn.out (i + 1),flat_take_succ s.Q i l hl,List.length_append]; omega
   have hVV : VP ++ (VQ.take i).flatten ++ V = VP ++ (VQ.take (i + 1)).flatten:=by rw [flat_take_succ VQ i V hV,List.append_assoc]
   rw [hll,hVV] at hm'
   obtain ⟨va',vc',rfl⟩:=hm'.form
   have HR:=hid hr
   have HM2:=hid hm'
   have HK2:=hid (KXr.out.trans (kx'.mono (Y:=fun b => M + 1 ≤ b) fun b ⟨n,c,e⟩ => by
    rcases HMr.out with ⟨-,-,e2⟩ | ⟨g,cap,e2,hg,-⟩
    ·rw [e] at e2; cases e2
    ·rw [e] at e2; cases e2; exact hg))
   have HII:=hid hin
   clear hr hm' kx' hll hVV hlm hlv hl hV hwr hin hi HMr
   go_wp2_with (first | (at_builtin; refine wpList_append_run rfl _ _ _ rfl _ _ rfl rfl _ _ (HR.out _) ?_; clear HR))
   go_roundw
   case rel => exact ⟨i + 1,va',vc',by have:=HII.out; omega,rfl,by go_num,HK2.out,HM2.out⟩
   case measure => have:=HII.out; simp [intOf]; omega
  ·obtain rfl : i = nq:=by omega
   have d1 : decide ((i : Int) < (i : Int)) = false:=decide_eq_false (by omega)
   have d2 : decide (i < i) = false:=decide_eq_false (by omega)
   clear hin hi
   go_wp2_with fail
   go_ret
   refine ⟨kept_of_kx KP1.out KXr.out (fun b hb => by have:=HMM.out; omega),_,rfl,?_⟩
   have h:=HMr.out
   have h1 : cn i = fl:=by rw [← HCn.out i,← HFl.out,List.take_of_length_le (by have:=HNQ.out; omega)]
   have h2 : VQ.take i = VQ:=List.take_of_length_le (by have:=HVQ.out; omega)
   rw [h2] at h
   rw [← h1]
   first | exact h.mono (H':=M) (by omega) | exact h.mono (H':=w.heap.size) (by have:=HMM.out; omega)
end Go.Proofs.Ytocjfdiimapojaa

namespace Go.Proofs.Ytocjfdiimapojaa
open Go.ChangeShapes Go.WideShapes Go.ChangeAt Go.RowKit
set_option maxHeartbeats 16000000
set_option maxRecDepth 100000
set_option linter.unusedVariables false
set_option linter.unusedSimpArgs false
/-- The block that a list lies in. -/
def bkv (v : Value) (b : Nat) : Prop:=∃ n c,v = .slice (some ⟨b,0,none⟩) n c
theorem MS.ty {sz : Nat} {e : TypeId} {H : Nat} {w : World} {v : Value} {k : Nat} {V : List Value} (h : MS sz e H w v k V) {b : Nat} (hb : bkv v b) : ∃ cur,w.heap[b]? = some (.cells cur e (0,0)):=by
 obtain ⟨n,c,e1⟩:=hb
 rcases h with ⟨-,-,e2⟩ | ⟨g,cap,e2,-,-,-,cur,h1,-⟩
 ·rw [e1] at e2; cases e2
 ·rw [e1] at e2; cases e2; exact ⟨cur,h1⟩
theorem MS.onx {sz : Nat} {e : TypeId} {H : Nat} {w w' : World} {v : Value} {k : Nat} {V : List Value} {X : Nat → Prop} (h : MS sz e H w v k V) (kk : KX X w w') (hn : ∀ b,bkv v b → ¬ X b) : MS sz e H w' v k V:=by
 rcases h with h | ⟨g,cap,h1,h2,h3,h4,h5⟩
 ·exact .inl h
 ·exact .inr ⟨g,cap,h1,h2,h3,h4,h5.on (kk.block g h5.lt (hn g ⟨_,_,h1⟩))⟩
theorem MS.uniq {sz : Nat} {e : TypeId} {H H' : Nat} {w : World} {v : Value} {k k' : Nat} {V V' : List Value} (h : MS sz e H w v k V) (h' : MS sz e H' w v k' V') : k = k' ∧ V = V':=by
 rcases h with ⟨rfl,rfl,rfl⟩ | ⟨g,cap,rfl,-,hl,-,cur,h1,-,-,-,h5⟩
 ·rcases h' with ⟨rfl,rfl,-⟩ | ⟨g,cap,e1,-⟩
  ·exact ⟨rfl,rfl⟩
  ·cases e1
 ·rcases h' with ⟨-,-,e1⟩ | ⟨g',cap',e1,-,hl',-,cur',h1',-,-,-,h5'⟩
  ·cases e1
  ·cases e1
   rw [h1] at h1'
   cases h1'
   refine ⟨rfl,?_⟩
   rw [← h5,← h5',hl,hl']
theorem ownS1 {w : World} {g c : Nat} {L : List Int} : OwnS w g c 1 3 (L.map (Value.int .i64)) ↔ Own w g c L:=by
 constructor
 ·rintro ⟨cur,h1,h2,h3,h4,h5⟩
  exact ⟨cur,h1,by simpa using h2,h3,by simpa using h4,by simpa using h5⟩
 ·rintro ⟨cur,h1,h2,h3,h4,h5⟩
  exact ⟨cur,h1,by simpa using h2,h3,by simpa using h4,by simpa using h5⟩
theorem KE.ok.onx {x : KE} {w w' : World} {X : Nat → Prop} (h : x.ok w) (k : KX X w w') (h1 : ∀ b cur,X b → w.heap[b]? ≠ some (.cells cur 54 (0,0))) (h2 : ∀ b cur,X b → w.heap[b]? ≠ some (.cells cur 32 (0,0))) : x.ok w' :=
 ⟨h.p.onx k fun b hb hx => by obtain ⟨cur,e⟩:=h.p.ty hb; exact h1 b cur hx e,h.q.onx k fun b hb hx => by obtain ⟨cur,e⟩:=h.q.ty hb; exact h2 b cur hx e,h.ql,fun j l V hl hV => by
  obtain ⟨lv,h3,h4⟩:=h.l j l V hl hV
  exact ⟨lv,h3,h4.onx k fun b hb hx => by obtain ⟨cur,e⟩:=h4.ty hb; exact h1 b cur hx e⟩,h.o,h.n,h.sl⟩
def row7 (x : KE) : List Value:=[.int .i64 x.s.a,.int .i64 x.s.b,.int .i64 x.s.d,x.pv,x.qv,.int .i64 x.s.lo,.int .i64 x.s.ra]
theorem rows7_get : ∀ (xs : List KE) (i : Nat) (x : KE) (c : Nat),xs[i]? = some x → c < 7 → (xs.flatMap row7)[i * 7 + c]? = (row7 x)[c]?
 | [],i,x,c,h,_ => by simp at h
 | y :: xs,0,x,c,h,hc => by
  cases h
  rw [List.flatMap_cons,List.getElem?_append_left (by show 0 * 7 + c < 7; omega),Nat.zero_mul,Nat.zero_add]
 | y :: xs,i + 1,x,c,h,hc => by
  rw [List.flatMap_cons,List.getElem?_append_right (by show 7 ≤ _; omega),show (i + 1) * 7 + c - (row7 y).length = i * 7 + c by show (i + 1) * 7 + c - 7 = _; omega]
  exact rows7_get xs i x c (by simpa using h) hc
/-- What stays the same all along. -/
structure Env where
 K : Nat
 S1 : Nat
 C1 : Nat
 S2 : Nat
 C2 : Nat
 r0 : Value
 r1 : Value
 xs : List KE
 ys : List KE
 bv : Value
 bs : List Value
 Hm : Nat
structure Env.st (E : Env) : Prop where
 n : E.xs.length ≤ 1000 ∧ E.ys.length ≤ 1000 ∧ E.bs.length ≤ 1000000
 al : ∀ x ∈ E.xs,∀ z ∈ E.xs ++ E.ys,∀ u ∈ x.pv :: x.vs,∀ v ∈ z.pv :: z.vs,u = v ∨ ∀ b,bkv u b → ¬ bkv v b
 aq : ∀ x ∈ E.xs,∀ z ∈ E.xs ++ E.ys,x.qv = z.qv ∨ ∀ b,bkv x.qv b → ¬ bkv z.qv b
 ab : ∀ (i j : Nat) (u v : Value),E.bs[i]? = some u → E.bs[j]? = some v → i ≠ j → ∀ b,bkv u b → ¬ bkv v b
 hK : E.K < E.Hm
 hb : ∀ v ∈ E.bs,∀ b,bkv v b → E.Hm ≤ b
 hl : ∀ x ∈ E.xs,∀ u ∈ x.pv :: x.vs,∀ b,bkv u b → E.Hm ≤ b
 hq : ∀ x ∈ E.xs,∀ b,bkv x.qv b → E.Hm ≤ b
theorem Env.st.kb {E : Env} (h : E.st) : ∀ v ∈ E.bs,¬ bkv v E.K:=fun v hv hb => absurd (h.hb v hv _ hb) (by have:=h.hK; omega)
theorem Env.st.kl {E : Env} (h : E.st) : ∀ x ∈ E.xs,∀ u ∈ x.pv :: x.vs,¬ bkv u E.K:=fun x hx u hu hb => absurd (h.hl x hx u hu _ hb) (by have:=h.hK; omega)
theorem Env.st.kq {E : Env} (h : E.st) : ∀ x ∈ E.xs,¬ bkv x.qv E.K:=fun x hx hb => absurd (h.hq x hx _ hb) (by have:=h.hK; omega)
structure Pic (E : Env) (P : Nat → List Int → Prop) (w : World) : Prop where
 k : Bk w E.K [E.r0,E.r1,.slice (some ⟨E.S1,0,none⟩) E.xs.length E.C1,.slice (some ⟨E.S2,0,none⟩) E.ys.length E.C2]
 s1 : OwnS w E.S1 E.C1 7 35 (E.xs.flatMap row7)
 s2 : OwnS w E.S2 E.C2 7 35 (E.ys.flatMap row7)
 x : ∀ z ∈ E.xs ++ E.ys,z.ok w
 bl : MS 1 52 0 w E.bv E.bs.length E.bs
 b : ∀ (i : Nat) (v : Value),E.bs[i]? = some v → ∃ g n L,v = .slice (some ⟨g,0,none⟩) n n ∧ L.length = n ∧ n ≤ 4096 ∧ P i L ∧ Own w g n L
theorem Pic.kept {E : Env} {P : Nat → List Int → Prop} {w w' : World} (h : Pic E P w) (k : Kept w w') : Pic E P w' :=
 ⟨h.k.kept k,h.s1.kept k,h.s2.kept k,fun z hz => (h.x z hz).kept k,h.bl.kept k,fun i v hv => by
  obtain ⟨g,n,L,a1,a2,a3,a4,a5⟩:=h.b i v hv
  exact ⟨g,n,L,a1,a2,a3,a4,ownS1.1 ((ownS1.2 a5).kept k)⟩⟩
theorem Pic.imp {E : Env} {P Q : Nat → List Int → Prop} {w : World} (h : Pic E P w) (hi : ∀ i L,P i L → Q i L) : Pic E Q w :=
 ⟨h.k,h.s1,h.s2,h.x,h.bl,fun i v hv => by
  obtain ⟨g,n,L,a1,a2,a3,a4,a5⟩:=h.b i v hv
  exact ⟨g,n,L,a1,a2,a3,hi i L a4,a5⟩⟩
theorem Pic.kx {E : Env} {P Q : Nat → List Int → Prop} {w w' : World} {X : Nat → Prop} (h : Pic E P w) (k : KX X w w') (hk : ¬ X E.K) (h1 : ∀ b cur,X b → w.heap[b]? ≠ some (.cells cur 35 (0,0))) (h2 : ∀ b cur,X b → w.heap[b]? ≠ some (.cells cur 52 (0,0))) (hx : ∀ z ∈ E.xs ++ E.ys,z.ok w') (hb : ∀ (i : Nat) (v : Value),E.bs[i]? = some v → ∃ g n L,v = .slice (some ⟨g,0,none⟩) n n ∧ L.length = n ∧ n ≤ 4096 ∧ Q i L ∧ Own w' g n L) : Pic E Q w' :=
 ⟨h.k.kx k hk,h.s1.on (k.block _ h.s1.lt fun hx => by obtain ⟨cur,e,-⟩:=h.s1; exact h1 _ cur hx e),h.s2.on (k.block _ h.s2.lt fun hx => by obtain ⟨cur,e,-⟩:=h.s2; exact h1 _ cur hx e),hx,h.bl.onx k fun b hb hx => by obtain ⟨cur,e⟩:=h.bl.ty hb; exact h2 b cur hx e,hb⟩
/-- A list of bits is written. -/
theorem Pic.bits {E : Env} (hE : E.st) {P Q : Nat → List Int → Prop} {w w' : World} (h : Pic E P w) (i : Nat) (g n : Nat) (L L' : List Int) (hi : E.bs[i]? = some (.slice (some ⟨g,0,none⟩) n n)) (ho : Own w g n L) (k : KX (fun b => b = g) w w') (ho' : Own w' g n L') (hl : L'.length = n) (hn : n ≤ 4096) (hQ : Q i L') (hPQ : ∀ j L,j ≠ i → P j L → Q j L) : Pic E Q w':=by
 have hty : ∀ b cur (e : TypeId),b = g → w.heap[b]? = some (.cells cur e (0,0)) → e = 3:=fun b cur e hb he => by
  subst hb
  obtain ⟨cur2,h2,-⟩:=ho
  rw [h2] at he
  simp at he
  exact he.2.symm
 refine h.kx k (fun e => hE.kb _ (List.mem_of_getElem? hi) ⟨n,n,by rw [e]⟩) (fun b cur hb he => ?_) (fun b cur hb he => ?_) (fun z hz => (h.x z hz).onx k (fun b cur hb he => ?_) (fun b cur hb he => ?_)) (fun j v hv => ?_)
 ·exact absurd (hty b cur _ hb he) (by decide)
 ·exact absurd (hty b cur _ hb he) (by decide)
 ·exact absurd (hty b cur _ hb he) (by decide)
 ·exact absurd (hty b cur _ hb he) (by decide)
 ·by_cases hji : j = i
  ·subst hji
   rw [hi] at hv
   cases hv
   exact ⟨g,n,L',rfl,hl,hn,hQ,ho'⟩
  ·obtain ⟨g2,n2,L2,a1,a2,a3,a4,a5⟩:=h.b j v hv
   refine ⟨g2,n2,L2,a1,a2,a3,hPQ j L2 hji a4,ownS1.1 ((ownS1.2 a5).on (k.block g2 a5.lt fun e => ?_))⟩
   exact hE.ab j i v _ hv hi hji g2 ⟨n2,n2,a1⟩ ⟨n,n,by rw [e]⟩
/-- A list of matrices is grown: it stays. -/
theorem Pic.list {E : Env} (hE : E.st) {P : Nat → List Int → Prop} {w w' : World} (h : Pic E P w) (x : KE) (hx : x ∈ E.xs) (u : Value) (hu : u ∈ x.pv :: x.vs) (n : Nat) (V : List Value) (hm : MS 4 54 0 w u n V) (k : KX (bkv u) w w') (hm' : MS 4 54 0 w' u n V) : Pic E P w':=by
 have hty : ∀ b cur (e : TypeId),bkv u b → w.heap[b]? = some (.cells cur e (0,0)) → e = 54:=fun b cur e hb he => by
  obtain ⟨cur2,h2⟩:=hm.ty hb
  rw [h2] at he
  simp at he
  exact he.2.symm
 have hone : ∀ z ∈ E.xs ++ E.ys,∀ v ∈ z.pv :: z.vs,∀ n2 V2,MS 4 54 0 w v n2 V2 → MS 4 54 0 w' v n2 V2:=fun z hz v hv n2 V2 h2 => by
  rcases hE.al x hx z hz u hu v hv with rfl | ha
  ·obtain ⟨rfl,rfl⟩:=hm.uniq h2
   exact hm'
  ·exact h2.onx k fun b hb hb2 => ha b hb2 hb
 refine h.kx k (hE.kl x hx u hu) (fun b cur hb he => absurd (hty b cur _ hb he) (by decide)) (fun b cur hb he => absurd (hty b cur _ hb he) (by decide)) (fun z hz => ?_) (fun j v hv => ?_)
 ·have hz2:=h.x z hz
  exact ⟨hone z hz _ (List.mem_cons_self ..) _ _ hz2.p,hz2.q.onx k fun b hb hx => by obtain ⟨cur,e⟩:=hz2.q.ty hb; exact absurd (hty b cur _ hx e) (by decide),hz2.ql,fun j l V hl hV => by
   obtain ⟨lv,h3,h4⟩:=hz2.l j l V hl hV
   exact ⟨lv,h3,hone z hz lv (List.mem_cons_of_mem _ (List.mem_of_getElem? h3)) _ _ h4⟩,hz2.o,hz2.n,hz2.sl⟩
 ·obtain ⟨g2,n2,L2,a1,a2,a3,a4,a5⟩:=h.b j v hv
  refine ⟨g2,n2,L2,a1,a2,a3,a4,ownS1.1 ((ownS1.2 a5).on (k.block g2 a5.lt fun hb => ?_))⟩
  obtain ⟨cur,e,-⟩:=a5
  exact absurd (hty g2 cur _ hb e) (by decide)
/-- A list of lists is grown: it stays. -/
theorem Pic.lists {E : Env} (hE : E.st) {P : Nat → List Int → Prop} {w w' : World} (h : Pic E P w) (x : KE) (hx : x ∈ E.xs) (k : KX (bkv x.qv) w w') (hm' : MS 1 32 0 w' x.qv x.s.Q.length x.vs) : Pic E P w':=by
 have hm:=(h.x x (List.mem_append_left _ hx)).q
 have hty : ∀ b cur (e : TypeId),bkv x.qv b → w.heap[b]? = some (.cells cur e (0,0)) → e = 32:=fun b cur e hb he => by
  obtain ⟨cur2,h2⟩:=hm.ty hb
  rw [h2] at he
  simp at he
  exact he.2.symm
 refine h.kx k (hE.kq x hx) (fun b cur hb he => absurd (hty b cur _ hb he) (by decide)) (fun b cur hb he => absurd (hty b cur _ hb he) (by decide)) (fun z hz => ?_) (fun j v hv => ?_)
 ·have hz2:=h.x z hz
  refine ⟨hz2.p.onx k fun b hb hx => by obtain ⟨cur,e⟩:=hz2.p.ty hb; exact absurd (hty b cur _ hx e) (by decide),?_,hz2.ql,fun j l V hl hV => by
   obtain ⟨lv,h3,h4⟩:=hz2.l j l V hl hV
   exact ⟨lv,h3,h4.onx k fun b hb hx => by obtain ⟨cur,e⟩:=h4.ty hb; exact absurd (hty b cur _ hx e) (by decide)⟩,hz2.o,hz2.n,hz2.sl⟩
  rcases hE.aq x hx z hz with e1 | ha
  ·have h2:=hz2.q
   rw [← e1] at h2 ⊢
   obtain ⟨e2,e3⟩:=hm.uniq h2
   rw [← e2,← e3]
   exact hm'
  ·exact hz2.q.onx k fun b hb hb2 => ha b hb2 hb
 ·obtain ⟨g2,n2,L2,a1,a2,a3,a4,a5⟩:=h.b j v hv
  refine ⟨g2,n2,L2,a1,a2,a3,a4,ownS1.1 ((ownS1.2 a5).on (k.block g2 a5.lt fun hb => ?_))⟩
  obtain ⟨cur,e,-⟩:=a5
  exact absurd (hty g2 cur _ hb e) (by decide)
/-- Grown by n zero elements,and one of the new cells written,other memory made in between or not. -/
theorem zmark2 (t e : TypeId) (ht : Try.prog.underlying t = some (.slice e)) (z : Value) (sz by8 : Nat) (hinf : (Try.prog.info? e).map (fun i => (i.zero,i.size,i.bytes)) = some (some z,sz,by8)) (hz : z.cells.size = sz) (hz0 : 0 < sz) (hby : by8 ≤ 64) (h1 : ∀ u ∈ z.cells.toList,u.oneCell' = true)
  (w : World) (lv : Value) (k : Nat) (V : List Value) (hM : MS sz e 0 w lv k V) (n : Nat) (hn : 0 < n) (hn2 : n < 1000000) (hk : k < 1000000) (j : Nat) (hj : k * sz ≤ j) (hj2 : j < (k + n) * sz) :
  ∃ g cap w',(∀ ty,(Builtin.append_ #[t,3] ty #[lv,.int .i64 (n : Int)]).run Try.prog w = .ok (.slice (some ⟨g,0,none⟩) (k + n) cap) w') ∧ (∃ y,w'.cell? ⟨g,j,none⟩ = some y) ∧ w'.frozen? ⟨g,j,none⟩ = false ∧ g < w'.heap.size ∧ w.heap.size ≤ w'.heap.size ∧ ∀ wa x,Kept w' wa → KX (bkv lv) w (wa.setCell ⟨g,j,none⟩ x) ∧ MS sz e 0 (wa.setCell ⟨g,j,none⟩ x) lv k V:=by
 obtain ⟨g,cap,w',hr,hkx,-,hg,-,hc,hf,hw⟩:=zmark t e ht z sz by8 hinf hz hz0 hby h1 w lv k V hM n hn hn2 hk
 refine ⟨g,cap,w',hr,hc j hj2,hf j,hg,hkx.size,fun wa x kk => hw _ ((kk.kx _).trans ((Grw.refl g wa).setCell j x).kx) fun cur hcur => ⟨j,x,hj,?_⟩⟩
 exact heap_setCell_same wa g j cur e x ((kk.below.block g hg).trans hcur)
/-- Every fourth cell: the lists of bits. -/
def bslM : List Value → List Value
 | _ :: _ :: _ :: d :: r => d :: bslM r
 | _ => []
theorem bslM_get : ∀ (k : Nat) (V : List Value),V.length = k * 4 → ∀ j,j < k → ∃ v,(bslM V)[j]? = some v ∧ V[j * 4 + 3]? = some v
 | 0,V,_,j,hj => by omega
 | k + 1,V,h,j,hj => by
  match V,h with
  | a :: b :: c :: d :: r,h =>
   match j with
   | 0 => exact ⟨d,rfl,rfl⟩
   | j + 1 =>
    obtain ⟨v,h1,h2⟩:=bslM_get k r (by simp at h; omega) j (by omega)
    exact ⟨v,by simpa [bslM] using h1,by rw [show (j + 1) * 4 + 3 = (j * 4 + 3) + 4 by omega]; simpa using h2⟩
  | [],h => simp at h
  | [_],h => simp at h; omega
  | [_,_],h => simp at h; omega
  | [_,_,_],h => simp at h; omega
theorem bslM_len : ∀ (k : Nat) (V : List Value),V.length = k * 4 → (bslM V).length = k
 | 0,V,h => by
  have : V = []:=List.length_eq_zero_iff.1 (by omega)
  subst this
  rfl
 | k + 1,V,h => by
  match V,h with
  | a :: b :: c :: d :: r,h =>
   have:=bslM_len k r (by simp at h; omega)
   simp [bslM,this]
  | [],h => simp at h
  | [_],h => simp at h; omega
  | [_,_],h => simp at h; omega
  | [_,_,_],h => simp at h; omega
end Go.Proofs.Ytocjfdiimapojaa
