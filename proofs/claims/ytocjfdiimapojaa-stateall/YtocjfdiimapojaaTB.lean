/- Lists that a call reads,and rows of its own; append to them. -/
import Derived.Test.YtocjfdiimapojaaNA
import Derived.Test.YtocjfdiimapojaaWiden2
import Derived.OwnWalk
import Derived.Laws.Cover3
import Derived.Laws.OwnMore
import Derived.Laws.AppendOwn
import Derived.Deep.AppendSrc
import Derived.Deep.Upon
import Derived.Deep.Cut
namespace Go.Proofs.Ytocjfdiimapojaa
open Go.ChangeShapes Go.WideShapes Go.ChangeAt Go.RowKit
set_option maxHeartbeats 16000000
set_option maxRecDepth 100000
set_option linter.unusedVariables false
set_option linter.unusedSimpArgs false
def Own (w : World) (g cap : Nat) (L : List Int) : Prop:=∃ cur,w.heap[g]? = some (.cells cur 3 (0,0)) ∧ L.length ≤ cap ∧ cap ≤ maxLen ∧ cur.size = cap ∧ cur.toList.take L.length = L.map (Value.int .i64)
structure Grw (g : Nat) (w w' : World) : Prop where
 grown : w.grownBy w' (some g)
 frozen : ∀ a,w'.frozen? a = w.frozen? a
theorem Grw.refl (g : Nat) (w : World) : Grw g w w:=⟨World.grownBy.refl _ _,fun _ => rfl⟩
theorem Grw.trans {g : Nat} {a b c : World} (h : Grw g a b) (k : Grw g b c) : Grw g a c :=
 ⟨⟨k.grown.os.trans h.grown.os,k.grown.tape.trans h.grown.tape,k.grown.output.trans h.grown.output,Nat.le_trans h.grown.size k.grown.size,fun i hi hne => (k.grown.block i (Nat.lt_of_lt_of_le hi h.grown.size) hne).trans (h.grown.block i hi hne)⟩,fun x => (k.frozen x).trans (h.frozen x)⟩
theorem Kept.toGrw {a b : World} (g : Nat) (h : Kept a b) : Grw g a b:=⟨⟨h.below.os,h.below.tape,h.below.output,h.below.size,fun i hi _ => h.below.block i hi⟩,h.frozen⟩
theorem Kept.grw {a b c : World} {g : Nat} (h : Kept a b) (hg : a.heap.size ≤ g) (k : Grw g b c) : Kept a c :=
 ⟨h.below.grown k.grown h.below.size (fun i e => by cases e; exact hg),fun x => (k.frozen x).trans (h.frozen x)⟩
theorem Grw.setCell {g : Nat} {a b : World} (h : Grw g a b) (j : Nat) (u : Value) : Grw g a (b.setCell ⟨g,j,none⟩ u) :=
 ⟨⟨h.grown.os,h.grown.tape,h.grown.output,by simpa using h.grown.size,fun i hi hne => (Below.heap_setCell b ⟨g,j,none⟩ u i (fun e => hne (by rw [e]))).trans (h.grown.block i hi hne)⟩,fun x => (World.frozen?_setCell _ _ _ _).trans (h.frozen x)⟩
theorem Own.lt {w : World} {g cap : Nat} {L : List Int} (h : Own w g cap L) : g < w.heap.size:=by
 obtain ⟨cur,hg,-⟩:=h
 exact lt_of_block hg
theorem Own.kept {w w' : World} {g cap : Nat} {L : List Int} (h : Own w g cap L) (k : Kept w w') : Own w' g cap L:=by
 have hl:=h.lt
 obtain ⟨cur,hg,r⟩:=h
 exact ⟨cur,(k.below.block g hl).trans hg,r⟩
theorem Own.grw {w w' : World} {g g' cap : Nat} {L : List Int} (h : Own w g cap L) (k : Grw g' w w') (hne : g ≠ g') : Own w' g cap L:=by
 have hl:=h.lt
 obtain ⟨cur,hg,r⟩:=h
 exact ⟨cur,(k.grown.block g hl (by simpa using hne)).trans hg,r⟩
theorem Own.cell {w : World} {g cap : Nat} {L : List Int} (h : Own w g cap L) (i : Nat) (hi : i < L.length) : w.cell? ⟨g,i,none⟩ = some (.int .i64 (L.getD i 0)):=by
 obtain ⟨cur,hg,h1,h2,h3,h4⟩:=h
 rw [cell_of_row w g i cur 3 (0,0) hg]
 have : (cur.toList.take L.length)[i]? = (L.map (Value.int .i64))[i]?:=by rw [h4]
 rw [List.getElem?_take,if_pos hi,List.getElem?_map,List.getElem?_eq_getElem hi] at this
 rw [List.getD_eq_getElem?_getD,List.getElem?_eq_getElem hi]
 simpa using this
theorem Own.reads {w : World} {g cap : Nat} {L : List Int} (h : Own w g cap L) : Reads w g 0 L:=fun i hi => by rw [Nat.zero_add]; exact h.cell i hi
theorem Own.free {w : World} {g cap : Nat} {L : List Int} (h : Own w g cap L) (i : Nat) : w.frozen? ⟨g,i,none⟩ = false:=by
 obtain ⟨cur,hg,-⟩:=h
 exact frozen_of_row w g i cur 3 hg
theorem Own.set {w : World} {g cap : Nat} {L : List Int} (h : Own w g cap L) (i : Nat) (d : Int) : Own (w.setCell ⟨g,i,none⟩ (.int .i64 d)) g cap (L.set i d):=by
 obtain ⟨cur,hg,h1,h2,h3,h4⟩:=h
 refine ⟨cur.setIfInBounds i (.int .i64 d),heap_setCell_same w g i cur 3 _ hg,by simpa using h1,h2,by simpa using h3,?_⟩
 rw [Array.toList_setIfInBounds,List.length_set,List.take_set,h4,List.map_set]
theorem Own.take {w : World} {g cap : Nat} {L : List Int} (h : Own w g cap L) (n : Nat) (hn : n ≤ L.length) : Own w g cap (L.take n):=by
 obtain ⟨cur,hg,h1,h2,h3,h4⟩:=h
 refine ⟨cur,hg,by simp; omega,h2,h3,?_⟩
 rw [List.length_take,Nat.min_eq_left hn,List.map_take,← h4,List.take_take,Nat.min_eq_left hn]
theorem Own.sl {w : World} {g cap : Nat} {L : List Int} (h : Own w g cap L) : Sl w (.slice (some ⟨g,0,none⟩) L.length cap) L:=by
 have hr:=h.reads
 have hl:=h.lt
 obtain ⟨cur,hg,h1,h2,h3,h4⟩:=h
 exact ⟨_,_,rfl,h1,h2,fun _ => ⟨g,0,rfl,hl,hr⟩⟩
theorem Own.slTake {w : World} {g cap : Nat} {L : List Int} (h : Own w g cap L) (n : Nat) (hn : n ≤ L.length) : Sl w (.slice (some ⟨g,0,none⟩) n cap) (L.take n):=by
 have:=(h.take n hn).sl
 rw [List.length_take,Nat.min_eq_left hn] at this
 exact this
theorem li_under : Try.prog.underlying 52 = some (.slice 3):=by kernel_rfl
theorem int_info : (Try.prog.info? 3).map (fun i => (i.zero,i.size,i.bytes)) = some (some (.int .i64 0),1,8):=by kernel_rfl
theorem wpList_append_run {P : Program} {w : World} {ops : Array Oper} {rest : List Oper} {o : Oper} {a : Act} {Q : Exit → Act → World → Prop} (hgd : o.guard = none) (s x : Operand) (t : TypeId)
  (ho : o.op = .call { callee:=.builtin .append,args:=#[s,x],argTypes:=#[t,t] }) (v xv : Value) (hs : a.eval s = v) (hx : a.eval x = xv) (v' : Value) (w' : World)
  (hr : (Builtin.append_ #[t,t] o.type #[v,xv]).run P w = .ok v' w') (h : wpList P ops Q rest (a.put o.dst v') w') : wpList P ops Q (o :: rest) a w:=by
 refine wpList_plain hgd fun K hK => ?_
 unfold Oper.wp execOp
 simp only [ho,resolve,invoke,builtin,Sem.run_bind,Sem.run_pure,Result.andThen_ok,List.map_toArray,List.map_cons,List.map_nil,hs,hx,hr]
 exact hK _ _ h
def OwnV (w : World) (g cap : Nat) (e : TypeId) (V : List Value) : Prop:=∃ cur,w.heap[g]? = some (.cells cur e (0,0)) ∧ V.length ≤ cap ∧ cap ≤ maxLen ∧ cur.size = cap ∧ cur.toList.take V.length = V
theorem own_v {w : World} {g cap : Nat} {L : List Int} : Own w g cap L ↔ OwnV w g cap 3 (L.map (Value.int .i64)):=by
 unfold Own OwnV
 simp only [List.length_map]
theorem OwnV.lt {w : World} {g cap : Nat} {e : TypeId} {V : List Value} (h : OwnV w g cap e V) : g < w.heap.size:=by
 obtain ⟨cur,hg,-⟩:=h
 exact lt_of_block hg
theorem OwnV.kept {w w' : World} {g cap : Nat} {e : TypeId} {V : List Value} (h : OwnV w g cap e V) (k : Kept w w') : OwnV w' g cap e V:=by
 have hl:=h.lt
 obtain ⟨cur,hg,r⟩:=h
 exact ⟨cur,(k.below.block g hl).trans hg,r⟩
theorem OwnV.grw {w w' : World} {g g' cap : Nat} {e : TypeId} {V : List Value} (h : OwnV w g cap e V) (k : Grw g' w w') (hne : g ≠ g') : OwnV w' g cap e V:=by
 have hl:=h.lt
 obtain ⟨cur,hg,r⟩:=h
 exact ⟨cur,(k.grown.block g hl (by simpa using hne)).trans hg,r⟩
theorem OwnV.setOther {w : World} {g cap : Nat} {e : TypeId} {V : List Value} (h : OwnV w g cap e V) {p : Addr} (hp : g ≠ p.block) (u : Value) : OwnV (w.setCell p u) g cap e V:=by
 obtain ⟨cur,hg,r⟩:=h
 exact ⟨cur,(Below.heap_setCell w p u g hp).trans hg,r⟩
theorem OwnV.cell {w : World} {g cap : Nat} {e : TypeId} {V : List Value} (h : OwnV w g cap e V) (i : Nat) (x : Value) (hi : V[i]? = some x) : w.cell? ⟨g,i,none⟩ = some x:=by
 obtain ⟨cur,hg,h1,h2,h3,h4⟩:=h
 rw [cell_of_row w g i cur e (0,0) hg]
 rw [← h4,List.getElem?_take] at hi
 split at hi
 ·simpa using hi
 ·cases hi
theorem OwnV.some {w : World} {g cap : Nat} {e : TypeId} {V : List Value} (h : OwnV w g cap e V) (i : Nat) (hi : i < cap) : (w.cell? ⟨g,i,none⟩).isSome = true:=by
 obtain ⟨cur,hg,h1,h2,h3,h4⟩:=h
 rw [cell_of_row w g i cur e (0,0) hg]
 simp
 omega
theorem OwnV.free {w : World} {g cap : Nat} {e : TypeId} {V : List Value} (h : OwnV w g cap e V) (i : Nat) : w.frozen? ⟨g,i,none⟩ = false:=by
 obtain ⟨cur,hg,-⟩:=h
 exact frozen_of_row w g i cur e hg
theorem OwnV.set {w : World} {g cap : Nat} {e : TypeId} {V : List Value} (h : OwnV w g cap e V) (i : Nat) (x : Value) : OwnV (w.setCell ⟨g,i,none⟩ x) g cap e (V.set i x):=by
 obtain ⟨cur,hg,h1,h2,h3,h4⟩:=h
 refine ⟨cur.setIfInBounds i x,heap_setCell_same w g i cur e _ hg,by simpa using h1,h2,by simpa using h3,?_⟩
 rw [Array.toList_setIfInBounds,List.length_set,List.take_set,h4]
theorem OwnV.push {w : World} {g cap : Nat} {e : TypeId} {V : List Value} (h : OwnV w g cap e V) (hi : V.length < cap) (x : Value) : OwnV (w.setCell ⟨g,V.length,none⟩ x) g cap e (V ++ [x]):=by
 obtain ⟨cur,hg,h1,h2,h3,h4⟩:=h
 refine ⟨cur.setIfInBounds V.length x,heap_setCell_same w g V.length cur e _ hg,by simp; omega,h2,by simpa using h3,?_⟩
 rw [Array.toList_setIfInBounds,List.length_append,List.length_singleton,List.take_set,List.take_add_one,h4]
 have : (cur.toList)[V.length]? = Option.some (cur.toList[V.length]'(by simp; omega)):=List.getElem?_eq_getElem _
 rw [this,List.set_append_right _ _ (by omega),Nat.sub_self]
 rfl
theorem OwnV.pushes {g cap : Nat} {e : TypeId} (news : List Value) : ∀ {w : World} {V : List Value} (h : OwnV w g cap e V) (hi : V.length + news.length ≤ cap),OwnV (w.setCells g V.length news) g cap e (V ++ news):=by
 induction news with
 | nil => intro w V h hi; simpa [World.setCells] using h
 | cons x r ih =>
  intro w V h hi
  simp only [List.length_cons] at hi
  have h2:=h.push (by omega) x
  have:=ih h2 (by simp; omega)
  rw [List.length_append,List.length_singleton] at this
  rw [World.setCells]
  simpa using this
theorem Grw.setCells {g : Nat} {a : World} (news : List Value) : ∀ {b : World} (h : Grw g a b) (o : Nat),Grw g a (b.setCells g o news):=by
 induction news with
 | nil => intro b h o; exact h
 | cons x r ih => intro b h o; exact ih (h.setCell o x) (o + 1)
theorem ownV_new (w : World) (e : TypeId) (z : Value) (hz : z.cells.size = 1) (V : List Value) (cap : Nat) (h1 : V.length ≤ cap) (h2 : cap ≤ maxLen) : OwnV (w.alloc (.cells (V.toArray ++ Builtin.zeroCells z.cells (cap - V.length)) e)) w.heap.size cap e V:=by
 refine ⟨_,heap_alloc_new w _,h1,h2,?_,?_⟩
 ·simp [size_zeroCells,hz]; omega
 ·simp
/-- A row of one's own,or none yet. -/
def Rw (w : World) (v : Value) (e : TypeId) (V : List Value) : Prop:=(V = [] ∧ v = .slice none 0 0) ∨ ∃ g cap,v = .slice (some ⟨g,0,none⟩) V.length cap ∧ OwnV w g cap e V
/-- Append: in place,or to a new row. -/
theorem app_gen (t e : TypeId) (ht : Try.prog.underlying t = some (.slice e)) (z : Value) (by8 : Nat) (hinf : (Try.prog.info? e).map (fun i => (i.zero,i.size,i.bytes)) = some (some z,1,by8)) (hz : z.cells.size = 1) (hby : by8 ≤ 24)
  (w : World) (v : Value) (olds news : List Value) (hv : Rw w v e olds) (ad : Addr) (m c : Nat) (hl : news.length = m) (hnews : ∀ j u,news[j]? = some u → w.cell? (ad.add j) = some u) (h1 : ∀ u ∈ news,u.oneCell' = true) (hm : 0 < m) (hsz : olds.length + m < 100000000) :
  ∃ g cap w',(∀ ty,(Builtin.append_ #[t,t] ty #[v,.slice (some ad) m c]).run Try.prog w = .ok (.slice (some ⟨g,0,none⟩) (olds.length + m) cap) w') ∧ OwnV w' g cap e (olds ++ news) ∧ ((g = w.heap.size ∧ Kept w w') ∨ (v = .slice (some ⟨g,0,none⟩) olds.length cap ∧ Grw g w w')):=by
 obtain ⟨i,hi,hz2,hs,hb⟩:=info_parts hinf
 have hS : Src Try.prog i.size t (.slice (some ad) m c) m news w:=Src.ofSlice w ht ad m c news (by rw [hs]; omega) hnews h1
 rcases hv with ⟨rfl,rfl⟩ | ⟨g,cap,rfl,hO⟩
 ·obtain ⟨C,hC⟩ : ∃ C,grownCap w (0 + m) 0 e = C:=⟨_,rfl⟩
  have hC1 : 0 + m ≤ C:=by rw [← hC]; exact grownCap_ge _ _ _ _
  have hC2 : C ≤ maxLen:=by rw [← hC]; exact grownCap_le_maxLen _ _ _ _ (by simp [maxLen] at *; omega)
  have hO:=ownV_new w.drew e z hz news C (by omega) hC2
  have hK : Kept w (w.drew.alloc (.cells (news.toArray ++ Builtin.zeroCells z.cells (C - news.length)) e)):=(Kept.refl w).drew.alloc _ _
  refine ⟨w.heap.size,C,_,fun ty => ?_,by simpa using hO,.inl ⟨rfl,hK⟩⟩
  have:=run_append_grow_src w t t ty e i z ht hi hz2 none 0 0 [] (by simpa using run_firstCells_none (P:=Try.prog) w.drew i.size 0 0 0) (.slice (some ad) m c) m news hS (by omega) (by omega) (growslice_fits (by omega) (by rw [hb]; simp only [List.length_nil] at hsz; exact Nat.le_trans (Nat.mul_le_mul_left _ hby) (by omega)))
  rw [hC] at this
  rw [this]
  simp [hl]
 ·by_cases hr : olds.length + m ≤ cap
  ·refine ⟨g,cap,w.setCells g olds.length news,fun ty => ?_,hO.pushes news (by omega),.inr ⟨rfl,(Grw.refl g w).setCells news _⟩⟩
   have:=run_append_room_src w t t ty e i ht hi g 0 olds.length cap (.slice (some ad) m c) m news hS hr (fun j hj => hO.some _ (by rw [hs]; omega)) (fun j hj => hO.free _)
   rw [this,hs]
   simp
  ·obtain ⟨C,hC⟩ : ∃ C,grownCap w (olds.length + m) cap e = C:=⟨_,rfl⟩
   have hC1 : olds.length + m ≤ C:=by rw [← hC]; exact grownCap_ge _ _ _ _
   have hC2 : C ≤ maxLen:=by rw [← hC]; exact grownCap_le_maxLen _ _ _ _ (by simp [maxLen]; omega)
   have hO2:=ownV_new w.drew e z hz (olds ++ news) C (by rw [List.length_append]; omega) hC2
   have hK : Kept w (w.drew.alloc (.cells ((olds ++ news).toArray ++ Builtin.zeroCells z.cells (C - (olds ++ news).length)) e)):=(Kept.refl w).drew.alloc _ _
   refine ⟨w.heap.size,C,_,fun ty => ?_,by simpa using hO2,.inl ⟨rfl,hK⟩⟩
   have hcl : cap < olds.length + m:=by omega
   have:=run_append_grow_src w t t ty e i z ht hi hz2 (some ⟨g,0,none⟩) olds.length cap olds (run_firstCells_some (P:=Try.prog) w.drew i.size olds.length ⟨g,0,none⟩ olds.length cap olds (by rw [hs]; omega) (fun j u hu => by rw [Addr.add_lit,Nat.zero_add]; exact hO.cell j u hu)) (.slice (some ad) m c) m news hS hcl (by omega) (growslice_fits hcl (by rw [hb]; exact Nat.le_trans (Nat.mul_le_mul_left _ hby) (by omega)))
   rw [hC] at this
   rw [this]
   simp [hl]
/-- Append of ints that a slice holds to nil. -/
theorem app_nil (L : List Int) (hlen : L.length < 100000000) (v : Value) (w : World) (h : Sl w v L) : ∃ v' w',(∀ ty,(Builtin.append_ #[52,52] ty #[.slice none 0 0,v]).run Try.prog w = .ok v' w') ∧ Kept w w' ∧ ((L = [] ∧ v' = .slice none 0 0) ∨ ∃ g cap,v' = .slice (some ⟨g,0,none⟩) L.length cap ∧ w.heap.size ≤ g ∧ Own w' g cap L):=by
 obtain ⟨ao,cap,rfl,hc,hm,hr⟩:=h
 by_cases hne : L = []
 ·subst hne
  obtain ⟨i,hi,hz2,hs,hb⟩:=info_parts (int_info)
  refine ⟨_,w,fun ty => run_append_nothing w 52 52 ty 3 i li_under hi none 0 0 (by omega) _ ?_,Kept.refl w,.inl ⟨rfl,rfl⟩⟩
  cases ao with
  | none => exact Src.ofNil w li_under cap
  | some a => exact Src.ofSlice w li_under a 0 cap [] (by simp) (fun j u hu => by simp at hu) (fun u hu => by cases hu)
 ·obtain ⟨b,off,rfl,hb,hr⟩:=hr hne
  have hpos:=List.length_pos_iff.2 hne
  obtain ⟨g,C,w',hrun,hO,hk⟩:=app_gen 52 3 li_under (.int .i64 0) 8 int_info (by simp [Value.cells]) (by omega) w (.slice none 0 0) [] (L.map (Value.int .i64)) (.inl ⟨rfl,rfl⟩) ⟨b,off,none⟩ L.length cap (by simp) (fun j u hj => by
   rw [List.getElem?_map] at hj
   by_cases hjl : j < L.length
   ·rw [List.getElem?_eq_getElem hjl] at hj
    cases hj
    have:=hr j hjl
    rw [List.getD_eq_getElem?_getD,List.getElem?_eq_getElem hjl] at this
    rw [Addr.add_lit]
    simpa using this
   ·rw [List.getElem?_eq_none (by omega)] at hj
    cases hj) (fun u hu => by obtain ⟨x,-,rfl⟩:=List.mem_map.1 hu; rfl) hpos (by simpa using hlen)
  rcases hk with ⟨rfl,hK⟩ | ⟨e,-⟩
  ·refine ⟨_,w',fun ty => by simpa using hrun ty,hK,.inr ⟨_,C,rfl,Nat.le_refl _,own_v.2 (by simpa using hO)⟩⟩
  ·cases e
def MR (H : Nat) (w : World) (v : Value) (M : List Int) : Prop:=(M = [] ∧ v = .slice none 0 0) ∨ ∃ g cap,v = .slice (some ⟨g,0,none⟩) M.length cap ∧ H ≤ g ∧ Own w g cap M
theorem MR.kept {H : Nat} {w w' : World} {v : Value} {M : List Int} (h : MR H w v M) (k : Kept w w') : MR H w' v M:=by
 rcases h with h | ⟨g,cap,e,hg,ho⟩
 ·exact .inl h
 ·exact .inr ⟨g,cap,e,hg,ho.kept k⟩
theorem MR.sl {H : Nat} {w : World} {v : Value} {M : List Int} (h : MR H w v M) : ∃ ao c,v = .slice ao M.length c ∧ (ao = none → c = 0) ∧ Sl w (.slice ao M.length c) M:=by
 rcases h with ⟨rfl,rfl⟩ | ⟨g,cap,rfl,hg,ho⟩
 ·exact ⟨none,0,rfl,fun _ => rfl,none,0,rfl,Nat.le_refl _,by simp [maxLen],fun h => absurd rfl h⟩
 ·exact ⟨_,_,rfl,fun h => by simp at h,ho.sl⟩
theorem app_step (H : Nat) (wr : World) (lv : Value) (M : List Int) (hM : MR H wr lv M) (d : Int) (hH : H ≤ wr.heap.size) (hlen : M.length < 10000000) : ∃ v' w',(∀ ty,(Builtin.append_ #[52,52] ty #[lv,.slice (some ⟨wr.heap.size,0,none⟩) 1 1]).run Try.prog (wr.alloc (.cells #[.int .i64 d] 3)) = .ok v' w') ∧ MR H w' v' (M ++ [d]) ∧ (∀ W : World,W.heap.size ≤ H → Kept W wr → Kept W w'):=by
 have hK : Kept wr (wr.alloc (.cells #[.int .i64 d] 3)):=(Kept.refl _).alloc _ _
 have hR : Rw (wr.alloc (.cells #[.int .i64 d] 3)) lv 3 (M.map (Value.int .i64)):=by
  rcases hM with ⟨rfl,rfl⟩ | ⟨g,cap,rfl,hg,ho⟩
  ·exact .inl ⟨rfl,rfl⟩
  ·exact .inr ⟨g,cap,by rw [List.length_map],own_v.1 (ho.kept hK)⟩
 obtain ⟨g,cap,w',hr,ho,hk⟩:=app_gen 52 3 li_under (.int .i64 0) 8 int_info (by rfl) (by decide) (wr.alloc (.cells #[.int .i64 d] 3)) lv (M.map (Value.int .i64)) [.int .i64 d] hR ⟨wr.heap.size,0,none⟩ 1 1 rfl (fun j u hj => by
  rcases j with _ | j
  ·cases hj
   simp [go_sem]
  ·simp at hj) (fun u hu => by rw [List.mem_singleton.1 hu]; rfl) (by decide) (by rw [List.length_map]; omega)
 rw [List.length_map] at hr
 have hO : Own w' g cap (M ++ [d]):=own_v.2 (by rw [List.map_append]; exact ho)
 refine ⟨_,w',hr,.inr ⟨g,cap,by rw [List.length_append]; rfl,?_,hO⟩,?_⟩
 ·rcases hk with ⟨e,-⟩ | ⟨e,-⟩
  ·rw [e]; simp; omega
  ·rcases hM with ⟨-,rfl⟩ | ⟨g0,cap0,rfl,hg,-⟩
   ·simp at e
   ·have e' : g0 = g:=by simp at e; exact e.1
    omega
 ·intro W hW k
  rcases hk with ⟨e,kk⟩ | ⟨e,gg⟩
  ·exact (k.trans hK).trans kk
  ·refine (k.trans hK).grw ?_ gg
   rcases hM with ⟨-,rfl⟩ | ⟨g0,cap0,rfl,hg,-⟩
   ·simp at e
   ·have e' : g0 = g:=by simp at e; exact e.1
    omega
end Go.Proofs.Ytocjfdiimapojaa
