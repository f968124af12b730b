/- A list of Inits,one's own: append. -/
import Derived.Test.YtcfcbabbgcckhaaGreatDoorWa49
namespace Go.Proofs.YtcfcbabbgcckhaaGreatDoor
open Go.ChangeShapes Go.WideShapes Go.ChangeAt Go.RowKit
set_option maxHeartbeats 16000000
set_option maxRecDepth 100000
set_option linter.unusedVariables false
set_option linter.unusedSimpArgs false
/-- A row of one's own: its cells,sz to an element. -/
def OwnS (w : World) (g cap sz : Nat) (e : TypeId) (V : List Value) : Prop:=∃ cur,w.heap[g]? = some (.cells cur e (0,0)) ∧ V.length ≤ cap * sz ∧ cap ≤ maxLen ∧ cur.size = cap * sz ∧ cur.toList.take V.length = V
theorem OwnS.lt {w : World} {g cap sz : Nat} {e : TypeId} {V : List Value} (h : OwnS w g cap sz e V) : g < w.heap.size:=by
 obtain ⟨cur,hg,-⟩:=h
 exact lt_of_block hg
theorem OwnS.on {w w' : World} {g cap sz : Nat} {e : TypeId} {V : List Value} (h : OwnS w g cap sz e V) (k : w'.heap[g]? = w.heap[g]?) : OwnS w' g cap sz e V:=by
 obtain ⟨cur,hg,r⟩:=h
 exact ⟨cur,k.trans hg,r⟩
theorem OwnS.kept {w w' : World} {g cap sz : Nat} {e : TypeId} {V : List Value} (h : OwnS w g cap sz e V) (k : Kept w w') : OwnS w' g cap sz e V:=h.on (k.below.block g h.lt)
theorem OwnS.cell {w : World} {g cap sz : Nat} {e : TypeId} {V : List Value} (h : OwnS w g cap sz e V) (i : Nat) (x : Value) (hi : V[i]? = some x) : w.cell? ⟨g,i,none⟩ = some x:=by
 obtain ⟨cur,hg,h1,h2,h3,h4⟩:=h
 rw [cell_of_row w g i cur e (0,0) hg]
 rw [← h4,List.getElem?_take] at hi
 split at hi
 ·simpa using hi
 ·cases hi
theorem OwnS.some {w : World} {g cap sz : Nat} {e : TypeId} {V : List Value} (h : OwnS w g cap sz e V) (i : Nat) (hi : i < cap * sz) : (w.cell? ⟨g,i,none⟩).isSome = true:=by
 obtain ⟨cur,hg,h1,h2,h3,h4⟩:=h
 rw [cell_of_row w g i cur e (0,0) hg]
 simp
 omega
theorem OwnS.free {w : World} {g cap sz : Nat} {e : TypeId} {V : List Value} (h : OwnS w g cap sz e V) (i : Nat) : w.frozen? ⟨g,i,none⟩ = false:=by
 obtain ⟨cur,hg,-⟩:=h
 exact frozen_of_row w g i cur e hg
theorem OwnS.push {w : World} {g cap sz : Nat} {e : TypeId} {V : List Value} (h : OwnS w g cap sz e V) (hi : V.length < cap * sz) (x : Value) : OwnS (w.setCell ⟨g,V.length,none⟩ x) g cap sz e (V ++ [x]):=by
 obtain ⟨cur,hg,h1,h2,h3,h4⟩:=h
 refine ⟨cur.setIfInBounds V.length x,heap_setCell_same w g V.length cur e _ hg,by simp; omega,h2,by simpa using h3,?_⟩
 rw [Array.toList_setIfInBounds,List.length_append,List.length_singleton,List.take_set,List.take_add_one,h4]
 have : (cur.toList)[V.length]? = Option.some (cur.toList[V.length]'(by simp; omega)):=List.getElem?_eq_getElem _
 rw [this,List.set_append_right _ _ (by omega),Nat.sub_self]
 rfl
theorem OwnS.pushes {g cap sz : Nat} {e : TypeId} (news : List Value) : ∀ {w : World} {V : List Value} (h : OwnS w g cap sz e V) (hi : V.length + news.length ≤ cap * sz),OwnS (w.setCells g V.length news) g cap sz e (V ++ news):=by
 induction news with
 | nil => intro w V h hi; simpa [World.setCells] using h
 | cons x r ih =>
  intro w V h hi
  simp only [List.length_cons] at hi
  have h2:=h.push (by omega) x
  have:=ih h2 (by simp; omega)
  rw [List.length_append,List.length_singleton] at this
  rw [World.setCells]
  simpa using this
theorem ownS_new (w : World) (e : TypeId) (z : Value) (sz : Nat) (hz : z.cells.size = sz) (V : List Value) (k cap : Nat) (hk : V.length = k * sz) (h1 : k ≤ cap) (h2 : cap ≤ maxLen) : OwnS (w.alloc (.cells (V.toArray ++ Builtin.zeroCells z.cells (cap - k)) e)) w.heap.size cap sz e V:=by
 have hc : cap * sz = k * sz + (cap - k) * sz:=by rw [← Nat.add_mul]; congr 1; omega
 refine ⟨_,heap_alloc_new w _,?_,h2,?_,?_⟩
 ·rw [hk,hc]; omega
 ·simp [size_zeroCells,hz]; rw [hk,hc]
 ·simp
theorem in_under : Tryz.prog.underlying 36 = some (.slice 23):=by kernel_rfl
theorem in_info : (Tryz.prog.info? 23).map (fun i => (i.zero,i.size,i.bytes)) = some (some (.agg #[.int .i64 0,.int .i64 0,.int .i64 0,.int .i64 0,.int .i64 0,.int .i64 0]),6,48):=by kernel_rfl
theorem app_j (wr : World) (lv : Value) (k : Nat) (V : List Value) (hM : (k = 0 ∧ V = [] ∧ lv = .slice none 0 0) ∨ ∃ g cap,lv = .slice (some ⟨g,0,none⟩) k cap ∧ V.length = k * 6 ∧ k ≤ cap ∧ OwnS wr g cap 6 23 V) (news : List Value) (m : Nat) (hm : 1 ≤ m ∧ m ≤ 2) (hn : news.length = m * 6) (h1 : ∀ u ∈ news,u.oneCell' = true) (hlen : k < 10000000) :
  ∃ g cap w',(∀ ty,(Builtin.append_ #[36,36] ty #[lv,.slice (some ⟨wr.heap.size,0,none⟩) m m]).run Tryz.prog (wr.alloc (.cells news.toArray 23)) = .ok (.slice (some ⟨g,0,none⟩) (k + m) cap) w') ∧ k + m ≤ cap ∧ OwnS w' g cap 6 23 (V ++ news) ∧ ((wr.heap.size ≤ g ∧ Kept wr w') ∨ ((∃ c0,lv = .slice (some ⟨g,0,none⟩) k c0) ∧ Grw g (wr.alloc (.cells news.toArray 23)) w')):=by
 obtain ⟨i,hi,hz2,hs,hb⟩:=info_parts in_info
 have ht:=in_under
 have hz : (Value.agg #[.int .i64 0,.int .i64 0,.int .i64 0,.int .i64 0,.int .i64 0,.int .i64 0]).cells.size = 6:=by simp [Value.cells]
 have hK : Kept wr (wr.alloc (.cells news.toArray 23)):=(Kept.refl _).alloc _ _
 obtain ⟨w,hw⟩ : ∃ w,w = wr.alloc (.cells news.toArray 23):=⟨_,rfl⟩
 have hws : w.heap.size = wr.heap.size + 1:=by rw [hw]; simp
 have hcell : ∀ j u,news[j]? = some u → w.cell? ((⟨wr.heap.size,0,none⟩ : Addr).add j) = some u:=fun j u hj => by
  rw [hw,Addr.add_lit,Nat.zero_add]
  rw [cell_of_row (wr.alloc (.cells news.toArray 23)) wr.heap.size j news.toArray 23 (0,0) (heap_alloc_new wr _)]
  simpa using hj
 have hS : Src Tryz.prog i.size 36 (.slice (some ⟨wr.heap.size,0,none⟩) m m) m news w:=Src.ofSlice w ht ⟨wr.heap.size,0,none⟩ m m news (by rw [hs,hn]) hcell h1
 rw [← hw] at hK ⊢
 have hbz : i.bytes ≤ 48:=by rw [hb]; exact Nat.le_refl _
 rcases hM with ⟨rfl,rfl,rfl⟩ | ⟨g,cap,rfl,hVl,hkc,hO⟩
 ·obtain ⟨C,hC⟩ : ∃ C,grownCap w (0 + m) 0 23 = C:=⟨_,rfl⟩
  have hC1 : 0 + m ≤ C:=by rw [← hC]; exact grownCap_ge _ _ _ _
  have hC2 : C ≤ maxLen:=by rw [← hC]; exact grownCap_le_maxLen _ _ _ _ (by simp [maxLen]; omega)
  have hN:=ownS_new w.drew 23 _ 6 hz news m C (by rw [hn]) (by omega) hC2
  have hKN : Kept w (w.drew.alloc (.cells (news.toArray ++ Builtin.zeroCells (Value.agg #[.int .i64 0,.int .i64 0,.int .i64 0,.int .i64 0,.int .i64 0,.int .i64 0]).cells (C - m)) 23)):=(Kept.refl w).drew.alloc _ _
  refine ⟨w.heap.size,C,_,fun ty => ?_,by omega,by simpa using hN,.inl ⟨by omega,hK.trans hKN⟩⟩
  have:=run_append_grow_src w 36 36 ty 23 i _ ht hi hz2 none 0 0 [] (by simpa using run_firstCells_none (P:=Tryz.prog) w.drew i.size 0 0 0) (.slice (some ⟨wr.heap.size,0,none⟩) m m) m news hS (by omega) (by omega) (growslice_fits (by omega) (by rw [hb]; omega))
  rw [hC] at this
  rw [this]
  simp
 ·have hO':=hO.kept hK
  have hnl : (V ++ news).length = (k + m) * 6:=by rw [List.length_append,hVl,hn,Nat.add_mul]
  by_cases hr : k + m ≤ cap
  ·have hroom : V.length + news.length ≤ cap * 6:=by omega
   refine ⟨g,cap,w.setCells g V.length news,fun ty => ?_,hr,hO'.pushes news hroom,.inr ⟨⟨_,rfl⟩,(Grw.refl g w).setCells news V.length⟩⟩
   have:=run_append_room_src w 36 36 ty 23 i ht hi g 0 k cap (.slice (some ⟨wr.heap.size,0,none⟩) m m) m news hS hr (fun j hj => hO'.some _ (by rw [hs,← hVl]; omega)) (fun j hj => hO'.free _)
   rw [this,hs,hVl]
   simp
  ·obtain ⟨C,hC⟩ : ∃ C,grownCap w (k + m) cap 23 = C:=⟨_,rfl⟩
   have hC1 : k + m ≤ C:=by rw [← hC]; exact grownCap_ge _ _ _ _
   have hC2 : C ≤ maxLen:=by rw [← hC]; exact grownCap_le_maxLen _ _ _ _ (by simp [maxLen]; omega)
   have hN:=ownS_new w.drew 23 _ 6 hz (V ++ news) (k + m) C hnl hC1 hC2
   have hKN : Kept w (w.drew.alloc (.cells ((V ++ news).toArray ++ Builtin.zeroCells (Value.agg #[.int .i64 0,.int .i64 0,.int .i64 0,.int .i64 0,.int .i64 0,.int .i64 0]).cells (C - (k + m))) 23)):=(Kept.refl w).drew.alloc _ _
   refine ⟨w.heap.size,C,_,fun ty => ?_,hC1,by simpa using hN,.inl ⟨by omega,hK.trans hKN⟩⟩
   have hcl : cap < k + m:=by omega
   have:=run_append_grow_src w 36 36 ty 23 i _ ht hi hz2 (some ⟨g,0,none⟩) k cap V (run_firstCells_some (P:=Tryz.prog) w.drew i.size k ⟨g,0,none⟩ k cap V (by rw [hs]; exact hVl) (fun j u hu => by rw [Addr.add_lit,Nat.zero_add]; exact hO'.cell j u hu)) (.slice (some ⟨wr.heap.size,0,none⟩) m m) m news hS hcl (by omega) (growslice_fits hcl (by rw [hb]; omega))
   rw [hC] at this
   rw [this]
end Go.Proofs.YtcfcbabbgcckhaaGreatDoor
