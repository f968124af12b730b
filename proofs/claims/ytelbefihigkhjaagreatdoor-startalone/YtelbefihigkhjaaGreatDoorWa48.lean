/- Package start: All. A list of Inits,one's own: append. -/
import Derived.Test.YtelbefihigkhjaaGreatDoorWa46
namespace Go.Proofs.YtelbefihigkhjaaGreatDoor
open Go.ChangeShapes Go.WideShapes Go.ChangeAt Go.RowKit
set_option maxHeartbeats 16000000
set_option maxRecDepth 100000
set_option linter.unusedVariables false
set_option linter.unusedSimpArgs false
/-- a block of matrices,of which the first k are made -/
structure Am (w : World) (h n k : Nat) (ro co wi : Nat → Int) (N : Nat → Nat) (M : Nat → List Int) : Prop where
 lt : h < w.heap.size
 ex : ∀ o,o < n * 4 → ∃ v,w.cell? ⟨h,o,none⟩ = some v
 fz : ∀ o,w.frozen? ⟨h,o,none⟩ = false
 el : ∀ i,i < k → ∃ g,g ≠ h ∧ w.cell? ⟨h,i * 4,none⟩ = some (.int .i64 (ro i)) ∧ w.cell? ⟨h,i * 4 + 1,none⟩ = some (.int .i64 (co i)) ∧ w.cell? ⟨h,i * 4 + 2,none⟩ = some (.int .i64 (wi i)) ∧ w.cell? ⟨h,i * 4 + 3,none⟩ = some (.slice (some ⟨g,0,none⟩) (N i) (N i)) ∧ Own w g (N i) (M i)
theorem Am.kept {w u : World} {h n k : Nat} {ro co wi : Nat → Int} {N : Nat → Nat} {M : Nat → List Int} (a : Am w h n k ro co wi N M) (kk : Kept w u) : Am u h n k ro co wi N M:=by
 have c : ∀ o v,w.cell? ⟨h,o,none⟩ = some v → u.cell? ⟨h,o,none⟩ = some v:=fun o v e => (kk.below.cell (p:=⟨h,o,none⟩) a.lt).trans e
 refine ⟨Nat.lt_of_lt_of_le a.lt kk.below.size,fun o ho => by obtain ⟨v,hv⟩:=a.ex o ho; exact ⟨v,c _ _ hv⟩,fun o => (kk.frozen _).trans (a.fz o),fun i hi => ?_⟩
 obtain ⟨g,h0,h1,h2,h3,h4,h5⟩:=a.el i hi
 exact ⟨g,h0,c _ _ h1,c _ _ h2,c _ _ h3,c _ _ h4,h5.kept kk⟩
theorem cell_setm (w : World) (D o p : Nat) (v : Value) (h : ∃ x,w.cell? ⟨D,o,none⟩ = some x) : (w.setCell ⟨D,o,none⟩ v).cell? ⟨D,p,none⟩ = if p = o then some v else w.cell? ⟨D,p,none⟩:=by
 obtain ⟨x,hx⟩:=h
 by_cases hp : p = o
 ·subst hp
  simp [go_sem,hx]
 ·have hq : ¬ o = p:=fun e => hp e.symm
  simp [go_sem,hp,hq]
theorem ex_setm (w : World) (D o p : Nat) (v : Value) (h : ∃ x,w.cell? ⟨D,o,none⟩ = some x) (hp : ∃ x,w.cell? ⟨D,p,none⟩ = some x) : ∃ x,(w.setCell ⟨D,o,none⟩ v).cell? ⟨D,p,none⟩ = some x:=by
 rw [cell_setm _ _ _ _ _ h]
 split
 ·exact ⟨_,rfl⟩
 ·exact hp
theorem Am.put {w : World} {h n k : Nat} {ro co wi : Nat → Int} {N : Nat → Nat} {M : Nat → List Int} (a : Am w h n k ro co wi N M) (hk : k < n) (g : Nat) (hg : g ≠ h) (ho : Own w g (N k) (M k)) : Am ((((w.setCell ⟨h,k * 4,none⟩ (.int .i64 (ro k))).setCell ⟨h,k * 4 + 1,none⟩ (.int .i64 (co k))).setCell ⟨h,k * 4 + 2,none⟩ (.int .i64 (wi k))).setCell ⟨h,k * 4 + 3,none⟩ (.slice (some ⟨g,0,none⟩) (N k) (N k))) h n (k + 1) ro co wi N M:=by
 have e1 : ∀ o,o < n * 4 → ∃ v,(w.setCell ⟨h,k * 4,none⟩ (.int .i64 (ro k))).cell? ⟨h,o,none⟩ = some v:=fun o ho => ex_setm _ _ _ _ _ (a.ex _ (by omega)) (a.ex o ho)
 have e2 : ∀ o,o < n * 4 → ∃ v,((w.setCell ⟨h,k * 4,none⟩ (.int .i64 (ro k))).setCell ⟨h,k * 4 + 1,none⟩ (.int .i64 (co k))).cell? ⟨h,o,none⟩ = some v:=fun o ho => ex_setm _ _ _ _ _ (e1 _ (by omega)) (e1 o ho)
 have e3 : ∀ o,o < n * 4 → ∃ v,(((w.setCell ⟨h,k * 4,none⟩ (.int .i64 (ro k))).setCell ⟨h,k * 4 + 1,none⟩ (.int .i64 (co k))).setCell ⟨h,k * 4 + 2,none⟩ (.int .i64 (wi k))).cell? ⟨h,o,none⟩ = some v:=fun o ho => ex_setm _ _ _ _ _ (e2 _ (by omega)) (e2 o ho)
 have cc : ∀ o,((((w.setCell ⟨h,k * 4,none⟩ (.int .i64 (ro k))).setCell ⟨h,k * 4 + 1,none⟩ (.int .i64 (co k))).setCell ⟨h,k * 4 + 2,none⟩ (.int .i64 (wi k))).setCell ⟨h,k * 4 + 3,none⟩ (.slice (some ⟨g,0,none⟩) (N k) (N k))).cell? ⟨h,o,none⟩ = if o = k * 4 + 3 then some (.slice (some ⟨g,0,none⟩) (N k) (N k)) else if o = k * 4 + 2 then some (.int .i64 (wi k)) else if o = k * 4 + 1 then some (.int .i64 (co k)) else if o = k * 4 then some (.int .i64 (ro k)) else w.cell? ⟨h,o,none⟩:=fun o => by
  rw [cell_setm _ _ _ _ _ (e3 _ (by omega)),cell_setm _ _ _ _ _ (e2 _ (by omega)),cell_setm _ _ _ _ _ (e1 _ (by omega)),cell_setm _ _ _ _ _ (a.ex _ (by omega))]
 have oo : ∀ g' C L,g' ≠ h → Own w g' C L → Own ((((w.setCell ⟨h,k * 4,none⟩ (.int .i64 (ro k))).setCell ⟨h,k * 4 + 1,none⟩ (.int .i64 (co k))).setCell ⟨h,k * 4 + 2,none⟩ (.int .i64 (wi k))).setCell ⟨h,k * 4 + 3,none⟩ (.slice (some ⟨g,0,none⟩) (N k) (N k))) g' C L:=fun g' C L hn o => (((o.setOther hn _).setOther hn _).setOther hn _).setOther hn _
 refine ⟨by simp; exact a.lt,fun o ho => ?_,fun o => by simp [World.frozen?_setCell,a.fz],fun i hi => ?_⟩
 ·exact ex_setm _ _ _ _ _ (e3 _ (by omega)) (e3 o ho)
 ·by_cases hik : i = k
  ·subst hik
   refine ⟨g,hg,?_,?_,?_,?_,oo _ _ _ hg ho⟩ <;> rw [cc]
   ·rw [if_neg (by omega),if_neg (by omega),if_neg (by omega),if_pos rfl]
   ·rw [if_neg (by omega),if_neg (by omega),if_pos rfl]
   ·rw [if_neg (by omega),if_pos rfl]
   ·rw [if_pos rfl]
  ·obtain ⟨g',h0,h1,h2,h3,h4,h5⟩:=a.el i (by omega)
   refine ⟨g',h0,?_,?_,?_,?_,oo _ _ _ h0 h5⟩ <;> rw [cc,if_neg (by omega),if_neg (by omega),if_neg (by omega),if_neg (by omega)]
   ·exact h1
   ·exact h2
   ·exact h3
   ·exact h4
theorem mat_info : (Tryz.prog.info? 28).map (fun i => (i.zero,i.size,i.bytes)) = some (some (.agg #[.int .i64 0,.int .i64 0,.int .i64 0,.slice none 0 0]),4,48):=by kernel_rfl
theorem mat_under : Tryz.prog.underlying 48 = some (.slice 28):=by kernel_rfl
theorem makeM_run (k : Nat) (hk : k ≤ 100000) (w : World) : (Instr.makeSlice 48 (.int .i64 (k : Int)) (.int .i64 (k : Int))).run Tryz.prog w = .ok (.slice (some ⟨w.heap.size,0,none⟩) k k) (w.alloc (.cells (madeCells #[.int .i64 0,.int .i64 0,.int .i64 0,.slice none 0 0] (k * 4)) 28)):=by
 obtain ⟨i,hi,hz,hs,hby⟩:=info_parts mat_info
 have:=run_make (P:=Tryz.prog) w 48 28 i _ mat_under hi hz .i64 .i64 (k : Int) (k : Int) (by omega) (Int.le_refl _) (by rw [hby]; omega) (by omega)
 rw [hs,Int.toNat_natCast] at this
 exact this
theorem Am.made (n : Nat) (ro co wi : Nat → Int) (N : Nat → Nat) (M : Nat → List Int) (w : World) : Am (w.alloc (.cells (madeCells #[.int .i64 0,.int .i64 0,.int .i64 0,.slice none 0 0] (n * 4)) 28)) w.heap.size n 0 ro co wi N M:=by
 refine ⟨by simp,fun o ho => ?_,fun o => by simp [go_sem],fun i hi => absurd hi (Nat.not_lt_zero _)⟩
 rw [World.cell?_alloc_at _ _ _ _ rfl]
 have hs:=size_madeCells #[.int .i64 0,.int .i64 0,.int .i64 0,.slice none 0 0] (n * 4)
 exact ⟨_,Array.getElem?_eq_getElem (by omega)⟩
/-- how a list of Inits lies -/
def Ins (w : World) (ao : Option Addr) (m : Nat) (ki ro co wi va vb : Nat → Int) : Prop:=∀ u,Kept w u → ∀ i,i < m → ∃ b off,ao = some ⟨b,off,none⟩ ∧ u.cell? ⟨b,off + i * 6,none⟩ = some (.int .i64 (ki i)) ∧ u.cell? ⟨b,off + i * 6 + 1,none⟩ = some (.int .i64 (ro i)) ∧ u.cell? ⟨b,off + i * 6 + 2,none⟩ = some (.int .i64 (co i)) ∧ u.cell? ⟨b,off + i * 6 + 3,none⟩ = some (.int .i64 (wi i)) ∧ u.cell? ⟨b,off + i * 6 + 4,none⟩ = some (.int .i64 (va i)) ∧ u.cell? ⟨b,off + i * 6 + 5,none⟩ = some (.int .i64 (vb i))
/-- what All tells: all,or the place of the first that can't be made -/
def AlA (q : Nat → Int) (n E : Nat) (ro co wi : Nat → Int) (N : Nat → Nat) (M : Nat → List Int) (w : World) (e : Ending) (w' : World) : Prop:=Kept w w' ∧ ((E = n ∧ ∃ h,e = .returned (.tuple #[.slice (some ⟨h,0,none⟩) n n,.int .i64 0,.int .i64 0]) ∧ Am w' h n n ro co wi N M) ∨ (E < n ∧ e = .returned (.tuple #[.slice none 0 0,.int .i64 E,.int .i64 (q E)])))
theorem all_walk (ao : Option Addr) (n cap E : Nat) (seed : Int) (hn : n ≤ 64) (ki ro co wi va vb : Nat → Int) (q : Nat → Int) (N : Nat → Nat) (M : Nat → List Int) (w : World) (hI : Ins w ao n ki ro co wi va vb) (hE : E ≤ n) (h0 : ∀ i,i < E → q i = 0) (h1 : E < n → (q E == 0) = false)
  (KM : Hid (∀ i u,i < n → Kept w u → Calls Tryz.prog 11 #[.agg #[.int .i64 (ki i),.int .i64 (ro i),.int .i64 (co i),.int .i64 (wi i),.int .i64 (va i),.int .i64 (vb i)],.int .i64 seed,.int .i64 (i : Int)] u fun e w' => MkA (q i) (ro i) (co i) (wi i) (N i) (M i) u e w')) :
  Calls Tryz.prog 14 #[.slice ao n cap,.int .i64 seed] w fun e w' => AlA q n E ro co wi N M w e w':=by
 have t0 : decide ((64 : Int) < (n : Int)) = false:=decide_eq_false (by omega)
 have t1 : decide ((n : Int) > 64) = false:=decide_eq_false (by omega)
 have hmk:=makeM_run n (by omega) w
 have hA:=Am.made n ro co wi N M w
 obtain ⟨X,hX⟩ : ∃ X,X = w.alloc (.cells (madeCells #[.int .i64 0,.int .i64 0,.int .i64 0,.slice none 0 0] (n * 4)) 28):=⟨_,rfl⟩
 obtain ⟨D,hD⟩ : ∃ D,D = w.heap.size:=⟨_,rfl⟩
 have hK : Kept w X:=by rw [hX]; exact (Kept.refl w).alloc _ _
 have oD : w.heap.size ≤ D:=by omega
 rw [← hX,← hD] at hmk hA
 clear hX hD
 have HI : Hid (Ins w ao n ki ro co wi va vb):=hI
 have H0 : Hid (∀ i,i < E → q i = 0):=h0
 have H1 : Hid (E < n → (q E == 0) = false):=h1
 have HE : Hid (E ≤ n):=hE
 clear hI h0 h1 hE
 go_enter Tryz.func14,Tryz.ntmps14
 go_upto_region 5 with fail
 clear hmk
 go_loopw [19] (fun i wr => ∃ k : Nat,k ≤ E ∧ i = .int .i64 k ∧ Kept w wr ∧ Am wr D n k ro co wi N M) (fun i _ => n - (intOf i).toNat)
 case atStart => exact ⟨0,Nat.zero_le _,rfl,hK,hA⟩
 case round =>
  clear hK hA
  obtain ⟨k,hkE,rfl,hK,hA⟩:=hrel
  by_cases hkn : k < n
  ·obtain ⟨b,off,rfl,c0,c1,c2,c3,c4,c5⟩:=HI.out _ hK k hkn
   have KM2:=KM.out k wr hkn hK
   go_wp2_with fail
   refine KM2.mono ?_
   rintro e w1 ⟨k1,⟨hq,g,rfl,og,ho⟩ | ⟨hq,rfl⟩⟩
   ·have k2:=k1.alloc #[.int .i64 (ro k),.int .i64 (co k),.int .i64 (wi k),.slice (some ⟨g,0,none⟩) (N k) (N k)] 28
    have gD : g ≠ D:=by have:=hA.lt; omega
    have hkE2 : k < E:=by
     rcases Nat.lt_or_ge k E with h | h
     ·exact h
     ·have e : k = E:=by omega
      have:=H1.out (by omega)
      rw [← e,hq] at this
      exact absurd this (by decide)
    have a2:=(hA.kept k2).put hkn g gD (ho.kept ((Kept.refl w1).alloc _ _))
    obtain ⟨x0,s0⟩:=(hA.kept k2).ex (k * 4) (by omega)
    obtain ⟨x1,s1⟩:=(hA.kept k2).ex (k * 4 + 1) (by omega)
    obtain ⟨x2,s2⟩:=(hA.kept k2).ex (k * 4 + 2) (by omega)
    obtain ⟨x3,s3⟩:=(hA.kept k2).ex (k * 4 + 3) (by omega)
    have f0:=(hA.kept k2).fz (k * 4)
    have f1:=(hA.kept k2).fz (k * 4 + 1)
    have f2:=(hA.kept k2).fz (k * 4 + 2)
    have f3:=(hA.kept k2).fz (k * 4 + 3)
    clear c0 c1 c2 c3 c4 c5
    go_wp2_with fail
    go_roundw
    case rel => exact ⟨k + 1,by omega,by go_num,((((hK.trans k2).setCell oD _).setCell oD _).setCell oD _).setCell oD _,a2⟩
    case measure => simp [intOf]; omega
   ·have hkE2 : Hid (k = E):=show k = E by
     rcases Nat.lt_or_ge k E with h | h
     ·have:=H0.out k h
      rw [this] at hq
      exact absurd hq (by decide)
     ·omega
    have hq2 : (q k != 0) = true:=by simpa using hq
    clear c0 c1 c2 c3 c4 c5
    go_wp2_with fail
    exact bodyPost_ret (v:=.tuple #[.slice none 0 0,.int .i64 (k : Int),.int .i64 (q k)]) (by simp [results,Tryz.results14,go_sem]) rfl ⟨hK.trans (k1.alloc _ _),.inr ⟨by have:=hkE2.out; omega,by rw [hkE2.out]⟩⟩
  ·obtain rfl : k = n:=by have:=HE.out; omega
   go_wp2_with fail
   exact bodyPost_ret (v:=.tuple #[.slice (some ⟨D,0,none⟩) k k,.int .i64 0,.int .i64 0]) (by simp [results,Tryz.results14,go_sem]) rfl ⟨hK,.inl ⟨by have:=HE.out; omega,D,rfl,hA⟩⟩
end Go.Proofs.YtelbefihigkhjaaGreatDoor

namespace Go.Proofs.YtelbefihigkhjaaGreatDoor
open Go.ChangeShapes Go.WideShapes Go.ChangeAt Go.RowKit
set_option maxHeartbeats 16000000
set_option maxRecDepth 100000
set_option linter.unusedVariables false
set_option linter.unusedSimpArgs false
/-- A row of one's own: its cells,sz to an element. -/
def OwnS (w : World) (g cap sz : Nat) (e : TypeId) (V : List Value) : Prop:=∃ cur,w.heap[g]? = some (.cells cur e (0,0)) ∧ V.length ≤ cap * sz ∧ cap ≤ maxLen ∧ cur.size = cap * sz ∧ cur.toList.take V.length = V
theorem OwnS.lt {w : World} {g cap sz : Nat} {e : TypeId} {V : List Value} (h : OwnS w g cap sz e V) : g < w.heap.size:=by
 obtain ⟨cur,hg,-⟩:=h
 exact lt_of_block hg
theorem OwnS.on {w w' : World} {g cap sz : Nat} {e : TypeId} {V : List Value} (h : OwnS w g cap sz e V) (k : w'.heap[g]? = w.heap[g]?) : OwnS w' g cap sz e V:=by
 obtain ⟨cur,hg,r⟩:=h
 exact ⟨cur,k.trans hg,r⟩
theorem OwnS.kept {w w' : World} {g cap sz : Nat} {e : TypeId} {V : List Value} (h : OwnS w g cap sz e V) (k : Kept w w') : OwnS w' g cap sz e V:=h.on (k.below.block g h.lt)
theorem OwnS.cell {w : World} {g cap sz : Nat} {e : TypeId} {V : List Value} (h : OwnS w g cap sz e V) (i : Nat) (x : Value) (hi : V[i]? = some x) : w.cell? ⟨g,i,none⟩ = some x:=by
 obtain ⟨cur,hg,h1,h2,h3,h4⟩:=h
 rw [cell_of_row w g i cur e (0,0) hg]
 rw [← h4,List.getElem?_take] at hi
 split at hi
 ·simpa using hi
 ·cases hi
theorem OwnS.some {w : World} {g cap sz : Nat} {e : TypeId} {V : List Value} (h : OwnS w g cap sz e V) (i : Nat) (hi : i < cap * sz) : (w.cell? ⟨g,i,none⟩).isSome = true:=by
 obtain ⟨cur,hg,h1,h2,h3,h4⟩:=h
 rw [cell_of_row w g i cur e (0,0) hg]
 simp
 omega
theorem OwnS.free {w : World} {g cap sz : Nat} {e : TypeId} {V : List Value} (h : OwnS w g cap sz e V) (i : Nat) : w.frozen? ⟨g,i,none⟩ = false:=by
 obtain ⟨cur,hg,-⟩:=h
 exact frozen_of_row w g i cur e hg
theorem OwnS.push {w : World} {g cap sz : Nat} {e : TypeId} {V : List Value} (h : OwnS w g cap sz e V) (hi : V.length < cap * sz) (x : Value) : OwnS (w.setCell ⟨g,V.length,none⟩ x) g cap sz e (V ++ [x]):=by
 obtain ⟨cur,hg,h1,h2,h3,h4⟩:=h
 refine ⟨cur.setIfInBounds V.length x,heap_setCell_same w g V.length cur e _ hg,by simp; omega,h2,by simpa using h3,?_⟩
 rw [Array.toList_setIfInBounds,List.length_append,List.length_singleton,List.take_set,List.take_add_one,h4]
 have : (cur.toList)[V.length]? = Option.some (cur.toList[V.length]'(by simp; omega)):=List.getElem?_eq_getElem _
 rw [this,List.set_append_right _ _ (by omega),Nat.sub_self]
 rfl
theorem OwnS.pushes {g cap sz : Nat} {e : TypeId} (news : List Value) : ∀ {w : World} {V : List Value} (h : OwnS w g cap sz e V) (hi : V.length + news.length ≤ cap * sz),OwnS (w.setCells g V.length news) g cap sz e (V ++ news):=by
 induction news with
 | nil => intro w V h hi; simpa [World.setCells] using h
 | cons x r ih =>
  intro w V h hi
  simp only [List.length_cons] at hi
  have h2:=h.push (by omega) x
  have:=ih h2 (by simp; omega)
  rw [List.length_append,List.length_singleton] at this
  rw [World.setCells]
  simpa using this
theorem ownS_new (w : World) (e : TypeId) (z : Value) (sz : Nat) (hz : z.cells.size = sz) (V : List Value) (k cap : Nat) (hk : V.length = k * sz) (h1 : k ≤ cap) (h2 : cap ≤ maxLen) : OwnS (w.alloc (.cells (V.toArray ++ Builtin.zeroCells z.cells (cap - k)) e)) w.heap.size cap sz e V:=by
 have hc : cap * sz = k * sz + (cap - k) * sz:=by rw [← Nat.add_mul]; congr 1; omega
 refine ⟨_,heap_alloc_new w _,?_,h2,?_,?_⟩
 ·rw [hk,hc]; omega
 ·simp [size_zeroCells,hz]; rw [hk,hc]
 ·simp
theorem in_under : Tryz.prog.underlying 36 = some (.slice 23):=by kernel_rfl
theorem in_info : (Tryz.prog.info? 23).map (fun i => (i.zero,i.size,i.bytes)) = some (some (.agg #[.int .i64 0,.int .i64 0,.int .i64 0,.int .i64 0,.int .i64 0,.int .i64 0]),6,48):=by kernel_rfl
theorem app_j (wr : World) (lv : Value) (k : Nat) (V : List Value) (hM : (k = 0 ∧ V = [] ∧ lv = .slice none 0 0) ∨ ∃ g cap,lv = .slice (some ⟨g,0,none⟩) k cap ∧ V.length = k * 6 ∧ k ≤ cap ∧ OwnS wr g cap 6 23 V) (news : List Value) (m : Nat) (hm : 1 ≤ m ∧ m ≤ 2) (hn : news.length = m * 6) (h1 : ∀ u ∈ news,u.oneCell' = true) (hlen : k < 10000000) :
  ∃ g cap w',(∀ ty,(Builtin.append_ #[36,36] ty #[lv,.slice (some ⟨wr.heap.size,0,none⟩) m m]).run Tryz.prog (wr.alloc (.cells news.toArray 23)) = .ok (.slice (some ⟨g,0,none⟩) (k + m) cap) w') ∧ k + m ≤ cap ∧ OwnS w' g cap 6 23 (V ++ news) ∧ ((wr.heap.size ≤ g ∧ Kept wr w') ∨ ((∃ c0,lv = .slice (some ⟨g,0,none⟩) k c0) ∧ Grw g (wr.alloc (.cells news.toArray 23)) w')):=by
 obtain ⟨i,hi,hz2,hs,hb⟩:=info_parts in_info
 have ht:=in_under
 have hz : (Value.agg #[.int .i64 0,.int .i64 0,.int .i64 0,.int .i64 0,.int .i64 0,.int .i64 0]).cells.size = 6:=by simp [Value.cells]
 have hK : Kept wr (wr.alloc (.cells news.toArray 23)):=(Kept.refl _).alloc _ _
 obtain ⟨w,hw⟩ : ∃ w,w = wr.alloc (.cells news.toArray 23):=⟨_,rfl⟩
 have hws : w.heap.size = wr.heap.size + 1:=by rw [hw]; simp
 have hcell : ∀ j u,news[j]? = some u → w.cell? ((⟨wr.heap.size,0,none⟩ : Addr).add j) = some u:=fun j u hj => by
  rw [hw,Addr.add_lit,Nat.zero_add]
  rw [cell_of_row (wr.alloc (.cells news.toArray 23)) wr.heap.size j news.toArray 23 (0,0) (heap_alloc_new wr _)]
  simpa using hj
 have hS : Src Tryz.prog i.size 36 (.slice (some ⟨wr.heap.size,0,none⟩) m m) m news w:=Src.ofSlice w ht ⟨wr.heap.size,0,none⟩ m m news (by rw [hs,hn]) hcell h1
 rw [← hw] at hK ⊢
 have hbz : i.bytes ≤ 48:=by rw [hb]; exact Nat.le_refl _
 rcases hM with ⟨rfl,rfl,rfl⟩ | ⟨g,cap,rfl,hVl,hkc,hO⟩
 ·obtain ⟨C,hC⟩ : ∃ C,grownCap w (0 + m) 0 23 = C:=⟨_,rfl⟩
  have hC1 : 0 + m ≤ C:=by rw [← hC]; exact grownCap_ge _ _ _ _
  have hC2 : C ≤ maxLen:=by rw [← hC]; exact grownCap_le_maxLen _ _ _ _ (by simp [maxLen]; omega)
  have hN:=ownS_new w.drew 23 _ 6 hz news m C (by rw [hn]) (by omega) hC2
  have hKN : Kept w (w.drew.alloc (.cells (news.toArray ++ Builtin.zeroCells (Value.agg #[.int .i64 0,.int .i64 0,.int .i64 0,.int .i64 0,.int .i64 0,.int .i64 0]).cells (C - m)) 23)):=(Kept.refl w).drew.alloc _ _
  refine ⟨w.heap.size,C,_,fun ty => ?_,by omega,by simpa using hN,.inl ⟨by omega,hK.trans hKN⟩⟩
  have:=run_append_grow_src w 36 36 ty 23 i _ ht hi hz2 none 0 0 [] (by simpa using run_firstCells_none (P:=Tryz.prog) w.drew i.size 0 0 0) (.slice (some ⟨wr.heap.size,0,none⟩) m m) m news hS (by omega) (by omega) (growslice_fits (by omega) (by rw [hb]; omega))
  rw [hC] at this
  rw [this]
  simp
 ·have hO':=hO.kept hK
  have hnl : (V ++ news).length = (k + m) * 6:=by rw [List.length_append,hVl,hn,Nat.add_mul]
  by_cases hr : k + m ≤ cap
  ·have hroom : V.length + news.length ≤ cap * 6:=by omega
   refine ⟨g,cap,w.setCells g V.length news,fun ty => ?_,hr,hO'.pushes news hroom,.inr ⟨⟨_,rfl⟩,(Grw.refl g w).setCells news V.length⟩⟩
   have:=run_append_room_src w 36 36 ty 23 i ht hi g 0 k cap (.slice (some ⟨wr.heap.size,0,none⟩) m m) m news hS hr (fun j hj => hO'.some _ (by rw [hs,← hVl]; omega)) (fun j hj => hO'.free _)
   rw [this,hs,hVl]
   simp
  ·obtain ⟨C,hC⟩ : ∃ C,grownCap w (k + m) cap 23 = C:=⟨_,rfl⟩
   have hC1 : k + m ≤ C:=by rw [← hC]; exact grownCap_ge _ _ _ _
   have hC2 : C ≤ maxLen:=by rw [← hC]; exact grownCap_le_maxLen _ _ _ _ (by simp [maxLen]; omega)
   have hN:=ownS_new w.drew 23 _ 6 hz (V ++ news) (k + m) C hnl hC1 hC2
   have hKN : Kept w (w.drew.alloc (.cells ((V ++ news).toArray ++ Builtin.zeroCells (Value.agg #[.int .i64 0,.int .i64 0,.int .i64 0,.int .i64 0,.int .i64 0,.int .i64 0]).cells (C - (k + m))) 23)):=(Kept.refl w).drew.alloc _ _
   refine ⟨w.heap.size,C,_,fun ty => ?_,hC1,by simpa using hN,.inl ⟨by omega,hK.trans hKN⟩⟩
   have hcl : cap < k + m:=by omega
   have:=run_append_grow_src w 36 36 ty 23 i _ ht hi hz2 (some ⟨g,0,none⟩) k cap V (run_firstCells_some (P:=Tryz.prog) w.drew i.size k ⟨g,0,none⟩ k cap V (by rw [hs]; exact hVl) (fun j u hu => by rw [Addr.add_lit,Nat.zero_add]; exact hO'.cell j u hu)) (.slice (some ⟨wr.heap.size,0,none⟩) m m) m news hS hcl (by omega) (growslice_fits hcl (by rw [hb]; omega))
   rw [hC] at this
   rw [this]
end Go.Proofs.YtelbefihigkhjaaGreatDoor
