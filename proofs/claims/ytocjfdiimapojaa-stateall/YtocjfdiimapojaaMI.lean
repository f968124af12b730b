/- The laws of chapter 23: the sample. The laws of chapter 23: alive. The laws of chapter 23: bulk,within. States and their bytes: what is read is written again as it was. StateBack: there and back. StateBack: the law. Bytes that are copied; within; bytes that are cut off,bytes with one more. -/
import Derived.Test.YtocjfdiimapojaaMH
import Derived.Test.YtocjfdiimapojaaVK
import Derived.Laws.IdiomStrings
namespace Go.Proofs.Ytocjfdiimapojaa
open Go.ChangeShapes Go.WideShapes Go.ChangeAt Go.RowKit
set_option maxHeartbeats 16000000
set_option maxRecDepth 100000
set_option linter.unusedVariables false
set_option linter.unusedSimpArgs false
abbrev smA : Mat:=⟨1,2,64,[4607182418800017408,-9223372036854775808]⟩
abbrev smB : Mat:=⟨1,1,32,[1065353216]⟩
def smp : Sta:=⟨7,2,1,[smA,smB],[[smA],[]],5,-9⟩
theorem sl_new (w : World) (L : List Int) (g : Nat) (hne : L ≠ []) (hl : L.length ≤ 100) (h : ∀ i,i < L.length → w.cell? ⟨g,i,none⟩ = some (.int .i64 (L.getD i 0))) : Sl w (.slice (some ⟨g,0,none⟩) L.length L.length) L:=by
 refine ⟨_,_,rfl,Nat.le_refl _,by simp [maxLen]; omega,fun _ => ⟨g,0,rfl,?_,fun i hi => by rw [Nat.zero_add]; exact h i hi⟩⟩
 have h0 : 0 < L.length:=by
  cases L with
  | nil => exact absurd rfl hne
  | cons a l => simp
 exact World.block_lt_of_cell? _ _ (h 0 h0)
theorem sample_any (w : World) : Calls Try.prog 11 #[] w fun e w' => ∃ v,e = .returned v ∧ StI w' v smp ∧ Kept w w':=by
 go_enter Try.func11,Try.ntmps11
 go_wp2
 have hb : ∀ (u : World) (vs : List Value) (t : TypeId) (n : Nat),u.heap.size = n → Bk (u.alloc (.cells vs.toArray t)) n vs:=fun u vs t n e => by rw [← e]; exact Bk.new u vs t
 refine bodyPost_ret (v:=.agg #[.int .i64 7,.int .i64 2,.int .i64 1,.slice (some ⟨w.heap.size + 1 + 1 + 1 + 1 + 1,0,none⟩) 2 2,.slice (some ⟨w.heap.size + 1 + 1 + 1 + 1 + 1 + 1 + 1,0,none⟩) 2 2,.int .i64 5,.int .i64 (-9)]) (by simp [results,Try.results11,go_sem]) rfl ?_
 obtain ⟨X,hX⟩ : ∃ X,((((((((w.alloc (.cells #[.int .i64 7,.int .i64 2,.int .i64 1,.slice (some ⟨w.heap.size + 1 + 1 + 1 + 1 + 1,0,none⟩) 2 2,.slice (some ⟨w.heap.size + 1 + 1 + 1 + 1 + 1 + 1 + 1,0,none⟩) 2 2,.int .i64 5,.int .i64 (-9)] 35)).alloc (.cells #[.int .i64 4607182418800017408,.int .i64 (-9223372036854775808)] 3)).alloc (.cells #[.int .i64 1,.int .i64 2,.int .i64 64,.slice (some ⟨w.heap.size + 1,0,none⟩) 2 2] 54)).alloc (.cells #[.int .i64 1065353216] 3)).alloc (.cells #[.int .i64 1,.int .i64 1,.int .i64 32,.slice (some ⟨w.heap.size + 1 + 1 + 1,0,none⟩) 1 1] 54)).alloc (.cells #[.int .i64 1,.int .i64 2,.int .i64 64,.slice (some ⟨w.heap.size + 1,0,none⟩) 2 2,.int .i64 1,.int .i64 1,.int .i64 32,.slice (some ⟨w.heap.size + 1 + 1 + 1,0,none⟩) 1 1] 54)).alloc (.cells #[.int .i64 1,.int .i64 2,.int .i64 64,.slice (some ⟨w.heap.size + 1,0,none⟩) 2 2] 54)).alloc (.cells #[.slice (some ⟨w.heap.size + 1 + 1 + 1 + 1 + 1 + 1,0,none⟩) 1 1,.slice none 0 0] 32)) = X:=⟨_,rfl⟩
 have q1 : Bk X (w.heap.size + 1) [.int .i64 4607182418800017408,.int .i64 (-9223372036854775808)]:=by rw [← hX]; exact (hb (w.alloc (.cells #[.int .i64 7,.int .i64 2,.int .i64 1,.slice (some ⟨w.heap.size + 1 + 1 + 1 + 1 + 1,0,none⟩) 2 2,.slice (some ⟨w.heap.size + 1 + 1 + 1 + 1 + 1 + 1 + 1,0,none⟩) 2 2,.int .i64 5,.int .i64 (-9)] 35)) [.int .i64 4607182418800017408,.int .i64 (-9223372036854775808)] 3 (w.heap.size + 1) (by simp)).kept (((((((Kept.refl _).alloc _ _).alloc _ _).alloc _ _).alloc _ _).alloc _ _).alloc _ _)
 have q3 : Bk X (w.heap.size + 1 + 1 + 1) [.int .i64 1065353216]:=by rw [← hX]; exact (hb (((w.alloc (.cells #[.int .i64 7,.int .i64 2,.int .i64 1,.slice (some ⟨w.heap.size + 1 + 1 + 1 + 1 + 1,0,none⟩) 2 2,.slice (some ⟨w.heap.size + 1 + 1 + 1 + 1 + 1 + 1 + 1,0,none⟩) 2 2,.int .i64 5,.int .i64 (-9)] 35)).alloc (.cells #[.int .i64 4607182418800017408,.int .i64 (-9223372036854775808)] 3)).alloc (.cells #[.int .i64 1,.int .i64 2,.int .i64 64,.slice (some ⟨w.heap.size + 1,0,none⟩) 2 2] 54)) [.int .i64 1065353216] 3 (w.heap.size + 1 + 1 + 1) (by simp)).kept (((((Kept.refl _).alloc _ _).alloc _ _).alloc _ _).alloc _ _)
 have q5 : Bk X (w.heap.size + 1 + 1 + 1 + 1 + 1) [.int .i64 1,.int .i64 2,.int .i64 64,.slice (some ⟨w.heap.size + 1,0,none⟩) 2 2,.int .i64 1,.int .i64 1,.int .i64 32,.slice (some ⟨w.heap.size + 1 + 1 + 1,0,none⟩) 1 1]:=by rw [← hX]; exact (hb (((((w.alloc (.cells #[.int .i64 7,.int .i64 2,.int .i64 1,.slice (some ⟨w.heap.size + 1 + 1 + 1 + 1 + 1,0,none⟩) 2 2,.slice (some ⟨w.heap.size + 1 + 1 + 1 + 1 + 1 + 1 + 1,0,none⟩) 2 2,.int .i64 5,.int .i64 (-9)] 35)).alloc (.cells #[.int .i64 4607182418800017408,.int .i64 (-9223372036854775808)] 3)).alloc (.cells #[.int .i64 1,.int .i64 2,.int .i64 64,.slice (some ⟨w.heap.size + 1,0,none⟩) 2 2] 54)).alloc (.cells #[.int .i64 1065353216] 3)).alloc (.cells #[.int .i64 1,.int .i64 1,.int .i64 32,.slice (some ⟨w.heap.size + 1 + 1 + 1,0,none⟩) 1 1] 54)) [.int .i64 1,.int .i64 2,.int .i64 64,.slice (some ⟨w.heap.size + 1,0,none⟩) 2 2,.int .i64 1,.int .i64 1,.int .i64 32,.slice (some ⟨w.heap.size + 1 + 1 + 1,0,none⟩) 1 1] 54 (w.heap.size + 1 + 1 + 1 + 1 + 1) (by simp)).kept (((Kept.refl _).alloc _ _).alloc _ _)
 have q6 : Bk X (w.heap.size + 1 + 1 + 1 + 1 + 1 + 1) [.int .i64 1,.int .i64 2,.int .i64 64,.slice (some ⟨w.heap.size + 1,0,none⟩) 2 2]:=by rw [← hX]; exact (hb ((((((w.alloc (.cells #[.int .i64 7,.int .i64 2,.int .i64 1,.slice (some ⟨w.heap.size + 1 + 1 + 1 + 1 + 1,0,none⟩) 2 2,.slice (some ⟨w.heap.size + 1 + 1 + 1 + 1 + 1 + 1 + 1,0,none⟩) 2 2,.int .i64 5,.int .i64 (-9)] 35)).alloc (.cells #[.int .i64 4607182418800017408,.int .i64 (-9223372036854775808)] 3)).alloc (.cells #[.int .i64 1,.int .i64 2,.int .i64 64,.slice (some ⟨w.heap.size + 1,0,none⟩) 2 2] 54)).alloc (.cells #[.int .i64 1065353216] 3)).alloc (.cells #[.int .i64 1,.int .i64 1,.int .i64 32,.slice (some ⟨w.heap.size + 1 + 1 + 1,0,none⟩) 1 1] 54)).alloc (.cells #[.int .i64 1,.int .i64 2,.int .i64 64,.slice (some ⟨w.heap.size + 1,0,none⟩) 2 2,.int .i64 1,.int .i64 1,.int .i64 32,.slice (some ⟨w.heap.size + 1 + 1 + 1,0,none⟩) 1 1] 54)) [.int .i64 1,.int .i64 2,.int .i64 64,.slice (some ⟨w.heap.size + 1,0,none⟩) 2 2] 54 (w.heap.size + 1 + 1 + 1 + 1 + 1 + 1) (by simp)).kept ((Kept.refl _).alloc _ _)
 have q7 : Bk X (w.heap.size + 1 + 1 + 1 + 1 + 1 + 1 + 1) [.slice (some ⟨w.heap.size + 1 + 1 + 1 + 1 + 1 + 1,0,none⟩) 1 1,.slice none 0 0]:=by rw [← hX]; exact (hb (((((((w.alloc (.cells #[.int .i64 7,.int .i64 2,.int .i64 1,.slice (some ⟨w.heap.size + 1 + 1 + 1 + 1 + 1,0,none⟩) 2 2,.slice (some ⟨w.heap.size + 1 + 1 + 1 + 1 + 1 + 1 + 1,0,none⟩) 2 2,.int .i64 5,.int .i64 (-9)] 35)).alloc (.cells #[.int .i64 4607182418800017408,.int .i64 (-9223372036854775808)] 3)).alloc (.cells #[.int .i64 1,.int .i64 2,.int .i64 64,.slice (some ⟨w.heap.size + 1,0,none⟩) 2 2] 54)).alloc (.cells #[.int .i64 1065353216] 3)).alloc (.cells #[.int .i64 1,.int .i64 1,.int .i64 32,.slice (some ⟨w.heap.size + 1 + 1 + 1,0,none⟩) 1 1] 54)).alloc (.cells #[.int .i64 1,.int .i64 2,.int .i64 64,.slice (some ⟨w.heap.size + 1,0,none⟩) 2 2,.int .i64 1,.int .i64 1,.int .i64 32,.slice (some ⟨w.heap.size + 1 + 1 + 1,0,none⟩) 1 1] 54)).alloc (.cells #[.int .i64 1,.int .i64 2,.int .i64 64,.slice (some ⟨w.heap.size + 1,0,none⟩) 2 2] 54)) [.slice (some ⟨w.heap.size + 1 + 1 + 1 + 1 + 1 + 1,0,none⟩) 1 1,.slice none 0 0] 32 (w.heap.size + 1 + 1 + 1 + 1 + 1 + 1 + 1) (by simp)).kept (Kept.refl _)
 have kX : Kept w X:=by rw [← hX]; exact (((((((((Kept.refl w).alloc _ _).alloc _ _).alloc _ _).alloc _ _).alloc _ _).alloc _ _).alloc _ _).alloc _ _)
 rw [hX]
 clear hX
 have sA : Sl X (.slice (some ⟨w.heap.size + 1,0,none⟩) 2 2) smA.L:=sl_new X [4607182418800017408,-9223372036854775808] (w.heap.size + 1) (by simp) (by decide) (fun i hi => by
  have h2 : i < 2:=hi
  obtain rfl | rfl : i = 0 ∨ i = 1:=by omega
  all_goals exact q1.c _ _ rfl)
 have sB : Sl X (.slice (some ⟨w.heap.size + 1 + 1 + 1,0,none⟩) 1 1) smB.L:=sl_new X [1065353216] (w.heap.size + 1 + 1 + 1) (by simp) (by decide) (fun i hi => by
  have h2 : i < 1:=hi
  obtain rfl : i = 0:=by omega
  exact q3.c _ _ rfl)
 have mA5 : MC X (w.heap.size + 1 + 1 + 1 + 1 + 1) (0 + 0 * 4) (some ⟨w.heap.size + 1,0,none⟩) 2 smA:=⟨q5.c 0 _ rfl,q5.c 1 _ rfl,q5.c 2 _ rfl,q5.c 3 _ rfl,sA⟩
 have nn5 : MC X (w.heap.size + 1 + 1 + 1 + 1 + 1) (0 + 1 * 4) (some ⟨w.heap.size + 1 + 1 + 1,0,none⟩) 1 smB:=⟨q5.c 4 _ rfl,q5.c 5 _ rfl,q5.c 6 _ rfl,q5.c 7 _ rfl,sB⟩
 have mA6 : MC X (w.heap.size + 1 + 1 + 1 + 1 + 1 + 1) (0 + 0 * 4) (some ⟨w.heap.size + 1,0,none⟩) 2 smA:=⟨q6.c 0 _ rfl,q6.c 1 _ rfl,q6.c 2 _ rfl,q6.c 3 _ rfl,sA⟩
 have lP : MlI X (.slice (some ⟨w.heap.size + 1 + 1 + 1 + 1 + 1,0,none⟩) 2 2) smp.P:=⟨_,2,rfl,by decide,fun _ => ⟨_,0,rfl,fun i m hi => by
  have h2 : i < 2:=(List.getElem?_eq_some_iff.1 hi).1
  obtain rfl | rfl : i = 0 ∨ i = 1:=by omega
  ·cases hi; exact ⟨_,_,mA5⟩
  ·cases hi; exact ⟨_,_,nn5⟩⟩⟩
 have l1 : MlI X (.slice (some ⟨w.heap.size + 1 + 1 + 1 + 1 + 1 + 1,0,none⟩) 1 1) [smA]:=⟨_,1,rfl,by decide,fun _ => ⟨_,0,rfl,fun i m hi => by
  have h2 : i < 1:=(List.getElem?_eq_some_iff.1 hi).1
  obtain rfl : i = 0:=by omega
  cases hi; exact ⟨_,_,mA6⟩⟩⟩
 have l2 : MlI X (.slice none 0 0) []:=⟨_,0,rfl,by decide,fun h => absurd rfl h⟩
 have lQ : LlI X (.slice (some ⟨w.heap.size + 1 + 1 + 1 + 1 + 1 + 1 + 1,0,none⟩) 2 2) smp.Q:=⟨_,2,rfl,by decide,fun _ => ⟨_,0,rfl,fun i l hi => by
  have h2 : i < 2:=(List.getElem?_eq_some_iff.1 hi).1
  obtain rfl | rfl : i = 0 ∨ i = 1:=by omega
  ·cases hi; exact ⟨_,q7.c 0 _ rfl,l1⟩
  ·cases hi; exact ⟨_,q7.c 1 _ rfl,l2⟩⟩⟩
 exact ⟨_,rfl,⟨_,_,rfl,lP,lQ⟩,kX⟩
theorem smp_frm : Frm smp:=by
 have hA : matOk smA:=⟨by decide,fun i hi => by
  have h2 : i < 2:=hi
  obtain rfl | rfl : i = 0 ∨ i = 1:=by omega
  all_goals decide⟩
 have hB : matOk smB:=⟨by decide,fun i hi => by
  have h2 : i < 1:=hi
  obtain rfl : i = 0:=by omega
  decide⟩
 refine ⟨by decide,by decide,by decide,by decide,by decide,fun i m hi => ?_,fun i l hi => ?_⟩
 ·have h2 : i < 2:=(List.getElem?_eq_some_iff.1 hi).1
  obtain rfl | rfl : i = 0 ∨ i = 1:=by omega
  ·cases hi; exact hA
  ·cases hi; exact hB
 ·have h2 : i < 2:=(List.getElem?_eq_some_iff.1 hi).1
  obtain rfl | rfl : i = 0 ∨ i = 1:=by omega
  ·cases hi
   refine ⟨by decide,fun i m hi => ?_⟩
   have h2 : i < 1:=(List.getElem?_eq_some_iff.1 hi).1
   obtain rfl : i = 0:=by omega
   cases hi; exact hA
  ·cases hi
   exact ⟨by decide,fun i m hi => by simp at hi⟩
theorem smp_rg : SRg smp:=by
 have hA : MRg smA:=fun x hx => by simp at hx; omega
 have hB : MRg smB:=fun x hx => by simp at hx; omega
 refine ⟨by decide,by decide,fun m hm => ?_,fun l hl m hm => ?_⟩
 ·simp only [smp,List.mem_cons,List.not_mem_nil,or_false] at hm
  rcases hm with rfl | rfl <;> assumption
 ·simp only [smp,List.mem_cons,List.not_mem_nil,or_false] at hl
  rcases hl with rfl | rfl
  ·simp only [List.mem_cons,List.not_mem_nil,or_false] at hm; subst hm; exact hA
  ·cases hm
theorem smp_len : (enc smp).length = 105:=by
 have h:=enc_len smp_frm
 have h2 : szS smp = 105:=by decide
 omega
end Go.Proofs.Ytocjfdiimapojaa
namespace Go.Proofs.Ytocjfdiimapojaa
open Go.ChangeShapes Go.WideShapes Go.ChangeAt Go.RowKit
set_option maxHeartbeats 16000000
set_option maxRecDepth 100000
set_option linter.unusedVariables false
set_option linter.unusedSimpArgs false
theorem MsV.get {E : Nat} {w : World} : ∀ {H : Nat} {l : List Mat} {V : List Value},MsV E w H l V → ∀ (i : Nat) (m : Mat),l[i]? = some m → ∃ g,Own w g m.L.length m.L ∧ V[i * 4]? = some (.int .i64 m.r) ∧ V[i * 4 + 1]? = some (.int .i64 m.c) ∧ V[i * 4 + 2]? = some (.int .i64 m.n) ∧ V[i * 4 + 3]? = some (.slice (some ⟨g,0,none⟩) m.L.length m.L.length)
 | _,[],_,_,i,m,hi => by simp at hi
 | _,x :: l,_,⟨g,V',e,hg,_,ho,h⟩,0,m,hi => by
  cases hi
  subst e
  exact ⟨g,ho,rfl,rfl,rfl,rfl⟩
 | _,x :: l,_,⟨g,V',e,hg,_,ho,h⟩,i + 1,m,hi => by
  obtain ⟨g2,ho2,h0,h1,h2,h3⟩:=MsV.get h i m (by simpa using hi)
  subst e
  refine ⟨g2,ho2,?_,?_,?_,?_⟩
  ·rw [List.getElem?_append_right (by show 4 ≤ _; omega),show (i + 1) * 4 - (mc4 x g).length = i * 4 by show (i + 1) * 4 - 4 = _; omega]; exact h0
  ·rw [List.getElem?_append_right (by show 4 ≤ _; omega),show (i + 1) * 4 + 1 - (mc4 x g).length = i * 4 + 1 by show (i + 1) * 4 + 1 - 4 = _; omega]; exact h1
  ·rw [List.getElem?_append_right (by show 4 ≤ _; omega),show (i + 1) * 4 + 2 - (mc4 x g).length = i * 4 + 2 by show (i + 1) * 4 + 2 - 4 = _; omega]; exact h2
  ·rw [List.getElem?_append_right (by show 4 ≤ _; omega),show (i + 1) * 4 + 3 - (mc4 x g).length = i * 4 + 3 by show (i + 1) * 4 + 3 - 4 = _; omega]; exact h3
theorem LsE.ml {H E : Nat} {w : World} {v : Value} {l : List Mat} (h : LsE H E w v l) : MlI w v l:=by
 obtain ⟨⟨V,hM,hV⟩,-⟩:=h
 rcases hM with ⟨h0,-,rfl⟩ | ⟨g,cap,rfl,-,-,hc,hO⟩
 ·have : l = []:=List.length_eq_zero_iff.1 h0
  subst this
  exact ⟨none,0,rfl,Nat.le_refl _,fun h => absurd rfl h⟩
 ·refine ⟨_,cap,rfl,hc,fun _ => ⟨g,0,rfl,fun i m hi => ?_⟩⟩
  obtain ⟨b,ho,h0,h1,h2,h3⟩:=hV.get i m hi
  rw [Nat.zero_add]
  exact ⟨_,_,hO.cell _ _ h0,hO.cell _ _ h1,hO.cell _ _ h2,hO.cell _ _ h3,ho.sl⟩
theorem SsV.get {E : Nat} {w : World} : ∀ {H : Nat} {Q : List (List Mat)} {V : List Value},SsV E w H Q V → ∀ (i : Nat) (l : List Mat),Q[i]? = some l → ∃ v H' F,V[i]? = some v ∧ LsE H' F w v l
 | _,[],_,_,i,m,hi => by simp at hi
 | _,x :: l,_,⟨v,V',F,e,_,_,h1,h⟩,0,m,hi => by
  cases hi
  subst e
  exact ⟨v,_,F,rfl,h1⟩
 | _,x :: l,_,⟨v,V',F,e,_,_,h1,h⟩,i + 1,m,hi => by
  obtain ⟨u,H',F',h2,h3⟩:=SsV.get h i m (by simpa using hi)
  subst e
  exact ⟨u,H',F',by simpa using h2,h3⟩
theorem LlV.ll {H : Nat} {w : World} {v : Value} {Q : List (List Mat)} (h : LlV H w v Q) : LlI w v Q:=by
 obtain ⟨⟨V,hM,hV⟩,-⟩:=h
 rcases hM with ⟨h0,-,rfl⟩ | ⟨g,cap,rfl,-,-,hc,hO⟩
 ·have : Q = []:=List.length_eq_zero_iff.1 h0
  subst this
  exact ⟨none,0,rfl,Nat.le_refl _,fun h => absurd rfl h⟩
 ·refine ⟨_,cap,rfl,hc,fun _ => ⟨g,0,rfl,fun i l hi => ?_⟩⟩
  obtain ⟨u,H',F',h1,h2⟩:=hV.get i l hi
  rw [Nat.zero_add]
  exact ⟨u,hO.cell _ _ h1,h2.ml⟩
theorem StV.st {H : Nat} {w : World} {v : Value} {s : Sta} (h : StV H w v s) : StI w v s:=by
 obtain ⟨pv,qv,K,e,-,h1,h2⟩:=h
 exact ⟨pv,qv,e,h1.ml,h2.ll⟩
/-- Bytes that one owns. -/
theorem own_br {w : World} {g C : Nat} {B : List Int} (h : OwnV w g C 5 (B.map (Value.int .u8))) : B ≠ [] → ∃ b off,(some ⟨g,0,none⟩ : Option Addr) = some ⟨b,off,none⟩ ∧ b < w.heap.size ∧ BR w b off B:=fun _ => ⟨g,0,rfl,h.lt,fun j hj => by
 rw [Nat.zero_add]
 refine h.cell j _ ?_
 rw [List.getElem?_map,List.getElem?_eq_getElem hj,List.getD_eq_getElem?_getD,List.getElem?_eq_getElem hj]
 rfl⟩
theorem alive23 (w : World) : Calls Try.prog 5 #[] w fun e w' => e = .returned (.bool true) ∧ Kept w w':=by
 have HSm:=hid sample_any
 have HSame : Hid (∀ v1 v2 u,StI u v1 smp → StI u v2 smp → Calls Try.prog 13 #[v1,v2] u fun e w' => e = .returned (.bool true) ∧ Kept u w'):=fun v1 v2 u h1 h2 => same_true smp v1 v2 (by decide) (by decide) (by decide) u h1 h2
 have HW : Hid (∀ v u,StI u v smp → Calls Try.prog 10 #[v] u fun e w' => Kept u w' ∧ ∃ g,e = .returned (.tuple #[.slice (some ⟨g,0,none⟩) 105 105,.int .i64 0]) ∧ OwnV w' g 105 5 ((Go.Proofs.Ytocjfdiimapojaa.enc smp).map (Value.int .u8))):=fun v u h => by
  refine (write_any v smp (by decide) (by decide) u h).mono ?_
  rintro e w' ⟨k,⟨-,g,rfl,-,ho⟩ | ⟨hn,-⟩⟩
  ·rw [smp_len] at ho ⊢
   exact ⟨k,g,rfl,ho⟩
  ·exact absurd smp_frm hn
 have HRd : Hid (∀ g u,OwnV u g 105 5 ((Go.Proofs.Ytocjfdiimapojaa.enc smp).map (Value.int .u8)) → Calls Try.prog 12 #[.slice (some ⟨g,0,none⟩) 105 105] u fun e w' => Kept u w' ∧ ∃ v,e = .returned (.tuple #[v,.int .i64 0,.int .i64 0]) ∧ StI w' v smp):=fun g u h => by
  have:=read_any (some ⟨g,0,none⟩) 105 (Go.Proofs.Ytocjfdiimapojaa.enc smp) (byt_enc smp) (by rw [smp_len]; exact Nat.le_refl _) u (own_br h)
  rw [smp_len,read_enc smp_frm smp_rg] at this
  refine this.mono ?_
  rintro e w' ⟨k,v,rfl,hv⟩
  exact ⟨k,v,rfl,hv.st⟩
 have HCk : Hid (∀ v u,StI u v smp → Calls Try.prog 14 #[v] u fun e w' => e = .returned (.int .i64 0) ∧ Kept u w'):=fun v u h => by
  refine (checkf_any v smp (by decide) (by decide) u h).mono ?_
  rintro e w' ⟨k,⟨-,rfl⟩ | ⟨hn,-⟩⟩
  ·exact ⟨rfl,k⟩
  ·exact absurd smp_frm hn
 go_enter Try.func5,Try.ntmps5
 go_wp2_with fail
 go_at_call 11
 refine (HSm.out w).mono ?_
 rintro e w1 ⟨v1,rfl,hs1,k1⟩
 have HS1:=hid hs1
 have K1:=hid k1
 clear hs1 k1
 go_wp2_with fail
 go_at_call 10
 refine (HW.out v1 w1 HS1.out).mono ?_
 rintro e w2 ⟨k2,g,rfl,ho⟩
 have HO:=hid ho
 have K2:=hid (K1.out.trans k2)
 clear ho k2
 go_wp2_with fail
 go_at_call 12
 refine (HRd.out g w2 HO.out).mono ?_
 rintro e w3 ⟨k3,v3,rfl,hs3⟩
 have HS3:=hid hs3
 have K3:=hid (K2.out.trans k3)
 obtain ⟨pv,qv,rfl,hp,hq⟩:=hs3
 obtain ⟨pa,pc,rfl⟩:=hp.len
 obtain ⟨qa,qc,rfl,-,-⟩:=hq
 obtain ⟨D,hD⟩ : ∃ D,w3.heap.size = D:=⟨_,rfl⟩
 obtain ⟨W3,hW3⟩ : ∃ W3,w3.alloc (.cells #[.int .i64 smp.a,.int .i64 smp.b,.int .i64 smp.d,.slice pa smp.P.length pc,.slice qa smp.Q.length qc,.int .i64 smp.lo,.int .i64 smp.ra] 35) = W3:=⟨_,rfl⟩
 have kW : Kept w3 W3:=by rw [← hW3]; exact (Kept.refl w3).alloc _ _
 have b3 : Bk W3 D [.int .i64 smp.a,.int .i64 smp.b,.int .i64 smp.d,.slice pa smp.P.length pc,.slice qa smp.Q.length qc,.int .i64 smp.lo,.int .i64 smp.ra]:=by rw [← hW3,← hD]; exact Bk.new w3 _ _
 have HS4:=hid (HS3.out.kept kW)
 have K4:=hid (K3.out.trans kW)
 clear k3 hp kW HO HS3
 generalize smp.a = sa at *
 generalize smp.b = sb at *
 generalize smp.d = sd at *
 generalize smp.P.length = pl at *
 generalize smp.Q.length = ql at *
 generalize smp.lo = lo at *
 generalize smp.ra = ra at *
 have x0:=b3.c 0 _ rfl
 have x1:=b3.c 1 _ rfl
 have x2:=b3.c 2 _ rfl
 have x3:=b3.c 3 _ rfl
 have x4:=b3.c 4 _ rfl
 have x5:=b3.c 5 _ rfl
 have x6:=b3.c 6 _ rfl
 clear b3
 go_wp2_with fail
 refine wp_region_held_drew (S:=fun u => Kept W3 u ∧ u.cell? ⟨D,0,none⟩ = some (.int .i64 sa) ∧ u.cell? ⟨D,1,none⟩ = some (.int .i64 sb) ∧ u.cell? ⟨D,2,none⟩ = some (.int .i64 sd) ∧ u.cell? ⟨D,3,none⟩ = some (.slice pa pl pc) ∧ u.cell? ⟨D,4,none⟩ = some (.slice qa ql qc) ∧ u.cell? ⟨D,5,none⟩ = some (.int .i64 lo) ∧ u.cell? ⟨D,6,none⟩ = some (.int .i64 ra)) (by kernel_rfl) (⟨(Kept.refl W3).drew,(((Kept.refl W3).drew).below.cell (p:=⟨D,0,none⟩) (World.block_lt_of_cell? _ _ x0)).trans x0,(((Kept.refl W3).drew).below.cell (p:=⟨D,1,none⟩) (World.block_lt_of_cell? _ _ x1)).trans x1,(((Kept.refl W3).drew).below.cell (p:=⟨D,2,none⟩) (World.block_lt_of_cell? _ _ x2)).trans x2,(((Kept.refl W3).drew).below.cell (p:=⟨D,3,none⟩) (World.block_lt_of_cell? _ _ x3)).trans x3,(((Kept.refl W3).drew).below.cell (p:=⟨D,4,none⟩) (World.block_lt_of_cell? _ _ x4)).trans x4,(((Kept.refl W3).drew).below.cell (p:=⟨D,5,none⟩) (World.block_lt_of_cell? _ _ x5)).trans x5,(((Kept.refl W3).drew).below.cell (p:=⟨D,6,none⟩) (World.block_lt_of_cell? _ _ x6)).trans x6⟩) (fun hHeld => ?_)
 refine tk (i:=0) (v:=?_) rfl ?_
 simp only [Act.put,zA,zB,zC,zD,zE,zF]
 refine tk (i:=1) (v:=?_) rfl ?_
 simp only [Act.put,zA,zB,zC,zD,zE,zF]
 refine tk (i:=2) (v:=?_) rfl ?_
 simp only [Act.put,zA,zB,zC,zD,zE,zF]
 refine tk (i:=3) (v:=?_) rfl ?_
 simp only [Act.put,zA,zB,zC,zD,zE,zF]
 refine tk (i:=4) (v:=?_) rfl ?_
 simp only [Act.put,zA,zB,zC,zD,zE,zF]
 refine tk (i:=5) (v:=?_) rfl ?_
 simp only [Act.put,zA,zB,zC,zD,zE,zF]
 refine tk (i:=6) (v:=?_) rfl ?_
 simp only [Act.put,zA,zB,zC,zD,zE,zF]
 refine tk (i:=7) (v:=?_) rfl ?_
 simp only [Act.put,zA,zB,zC,zD,zE,zF]
 refine tk (i:=8) (v:=?_) rfl ?_
 simp only [Act.put,zA,zB,zC,zD,zE,zF]
 refine tk (i:=9) (v:=?_) rfl ?_
 simp only [Act.put,zA,zB,zC,zD,zE,zF]
 refine tk (i:=10) (v:=?_) rfl ?_
 simp only [Act.put,zA,zB,zC,zD,zE,zF]
 refine tk (i:=11) (v:=?_) rfl ?_
 simp only [Act.put,zA,zB,zC,zD,zE,zF]
 refine tk (i:=12) (v:=?_) rfl ?_
 simp only [Act.put,zA,zB,zC,zD,zE,zF]
 refine tk (i:=13) (v:=?_) rfl ?_
 simp only [Act.put,zA,zB,zC,zD,zE,zF]
 refine tk (i:=14) (v:=?_) rfl ?_
 simp only [Act.put,zA,zB,zC,zD,zE,zF]
 refine tk (i:=15) (v:=?_) rfl ?_
 simp only [Act.put,zA,zB,zC,zD,zE,zF]
 refine tk (i:=16) (v:=?_) rfl ?_
 simp only [Act.put,zA,zB,zC,zD,zE,zF]
 refine wpAnyH_ready (rs:=[17]) (by kernel_rfl) (by simp) ?_
 refine AllReadyH.cons rfl (fun K9 hK9 => ?_) AllReadyH.nil
 go_simp
 go_wp2_with fail
 refine (HSm.out _).mono ?_
 rintro e u5 ⟨v5,rfl,hs5,k5⟩
 have kk5 : Kept W3 u5:=((Kept.refl W3).drew).trans k5
 refine hK9.out _ _ ⟨kk5,((kk5).below.cell (p:=⟨D,0,none⟩) (World.block_lt_of_cell? _ _ x0)).trans x0,((kk5).below.cell (p:=⟨D,1,none⟩) (World.block_lt_of_cell? _ _ x1)).trans x1,((kk5).below.cell (p:=⟨D,2,none⟩) (World.block_lt_of_cell? _ _ x2)).trans x2,((kk5).below.cell (p:=⟨D,3,none⟩) (World.block_lt_of_cell? _ _ x3)).trans x3,((kk5).below.cell (p:=⟨D,4,none⟩) (World.block_lt_of_cell? _ _ x4)).trans x4,((kk5).below.cell (p:=⟨D,5,none⟩) (World.block_lt_of_cell? _ _ x5)).trans x5,((kk5).below.cell (p:=⟨D,6,none⟩) (World.block_lt_of_cell? _ _ x6)).trans x6⟩ (fun hHeld5 => ?_)
 clear hK9 K9
 refine wpAnyH_ready (rs:=[18]) (by kernel_rfl) (by simp) ?_
 refine AllReadyH.cons rfl (fun K9 hK9 => ?_) AllReadyH.nil
 go_simp
 go_wp2_with fail
 refine (HSame.out _ _ _ (HS4.out.kept kk5) hs5).mono ?_
 rintro e u6 ⟨rfl,k6⟩
 have kk6 : Kept W3 u6:=kk5.trans k6
 refine hK9.out _ _ ⟨kk6,((kk6).below.cell (p:=⟨D,0,none⟩) (World.block_lt_of_cell? _ _ x0)).trans x0,((kk6).below.cell (p:=⟨D,1,none⟩) (World.block_lt_of_cell? _ _ x1)).trans x1,((kk6).below.cell (p:=⟨D,2,none⟩) (World.block_lt_of_cell? _ _ x2)).trans x2,((kk6).below.cell (p:=⟨D,3,none⟩) (World.block_lt_of_cell? _ _ x3)).trans x3,((kk6).below.cell (p:=⟨D,4,none⟩) (World.block_lt_of_cell? _ _ x4)).trans x4,((kk6).below.cell (p:=⟨D,5,none⟩) (World.block_lt_of_cell? _ _ x5)).trans x5,((kk6).below.cell (p:=⟨D,6,none⟩) (World.block_lt_of_cell? _ _ x6)).trans x6⟩ (fun hHeld6 => ?_)
 clear hK9 K9
 refine tk (i:=19) (v:=?_) rfl ?_
 simp only [Act.put,zA,zB,zC,zD,zE,zF]
 refine tk (i:=20) (v:=?_) rfl ?_
 simp only [Act.put,zA,zB,zC,zD,zE,zF]
 refine wpAnyH_ready (rs:=[21]) (by kernel_rfl) (by simp) ?_
 refine AllReadyH.cons rfl (fun K9 hK9 => ?_) AllReadyH.nil
 go_simp
 go_wp2_with fail
 refine (HSm.out _).mono ?_
 rintro e u7 ⟨v7,rfl,hs7,k7⟩
 have kk7 : Kept W3 u7:=kk6.trans k7
 refine hK9.out _ _ ⟨kk7,((kk7).below.cell (p:=⟨D,0,none⟩) (World.block_lt_of_cell? _ _ x0)).trans x0,((kk7).below.cell (p:=⟨D,1,none⟩) (World.block_lt_of_cell? _ _ x1)).trans x1,((kk7).below.cell (p:=⟨D,2,none⟩) (World.block_lt_of_cell? _ _ x2)).trans x2,((kk7).below.cell (p:=⟨D,3,none⟩) (World.block_lt_of_cell? _ _ x3)).trans x3,((kk7).below.cell (p:=⟨D,4,none⟩) (World.block_lt_of_cell? _ _ x4)).trans x4,((kk7).below.cell (p:=⟨D,5,none⟩) (World.block_lt_of_cell? _ _ x5)).trans x5,((kk7).below.cell (p:=⟨D,6,none⟩) (World.block_lt_of_cell? _ _ x6)).trans x6⟩ (fun hHeld7 => ?_)
 clear hK9 K9
 refine wpAnyH_ready (rs:=[22]) (by kernel_rfl) (by simp) ?_
 refine AllReadyH.cons rfl (fun K9 hK9 => ?_) AllReadyH.nil
 go_simp
 go_wp2_with fail
 refine (HCk.out _ _ hs7).mono ?_
 rintro e u8 ⟨rfl,k8⟩
 have kk8 : Kept W3 u8:=kk7.trans k8
 refine hK9.out _ _ ⟨kk8,((kk8).below.cell (p:=⟨D,0,none⟩) (World.block_lt_of_cell? _ _ x0)).trans x0,((kk8).below.cell (p:=⟨D,1,none⟩) (World.block_lt_of_cell? _ _ x1)).trans x1,((kk8).below.cell (p:=⟨D,2,none⟩) (World.block_lt_of_cell? _ _ x2)).trans x2,((kk8).below.cell (p:=⟨D,3,none⟩) (World.block_lt_of_cell? _ _ x3)).trans x3,((kk8).below.cell (p:=⟨D,4,none⟩) (World.block_lt_of_cell? _ _ x4)).trans x4,((kk8).below.cell (p:=⟨D,5,none⟩) (World.block_lt_of_cell? _ _ x5)).trans x5,((kk8).below.cell (p:=⟨D,6,none⟩) (World.block_lt_of_cell? _ _ x6)).trans x6⟩ (fun hHeld8 => ?_)
 clear hK9 K9
 refine tk (i:=23) (v:=?_) rfl ?_
 simp only [Act.put,zA,zB,zC,zD,zE,zF]
 refine tk (i:=24) (v:=?_) rfl ?_
 simp only [Act.put,zA,zB,zC,zD,zE,zF]
 refine tk (i:=25) (v:=?_) rfl ?_
 simp only [Act.put,zA,zB,zC,zD,zE,zF]
 refine wpAnyH_done (by kernel_rfl) ?_ _
 clear hHeld hHeld5 hHeld6 hHeld7 hHeld8 x0 x1 x2 x3 x4 x5 x6 hW3 hD
 go_wp2_with fail
 go_ret
 exact ⟨rfl,K4.out.trans kk8⟩
end Go.Proofs.Ytocjfdiimapojaa
namespace Go.Proofs.Ytocjfdiimapojaa
open Go.ChangeShapes Go.WideShapes Go.ChangeAt Go.RowKit
set_option maxHeartbeats 16000000
set_option maxRecDepth 100000
set_option linter.unusedVariables false
set_option linter.unusedSimpArgs false
end Go.Proofs.Ytocjfdiimapojaa
namespace Go.Proofs.Ytocjfdiimapojaa
open Go.ChangeShapes Go.WideShapes Go.ChangeAt Go.RowKit
set_option maxHeartbeats 16000000
set_option maxRecDepth 100000
set_option linter.unusedVariables false
set_option linter.unusedSimpArgs false
theorem shift_same (x p t : Int) (hp : 0 < p) : (x + p * 256 * t) / p % 256 = x / p % 256:=by
 rw [show x + p * 256 * t = x + p * (256 * t) by rw [Int.mul_assoc],Int.add_mul_ediv_left _ _ (by omega)]
 omega
theorem pow_split (j k : Nat) (h : j < k) : (2 : Int) ^ (8 * k) = 2 ^ (8 * j) * 256 * 2 ^ (8 * (k - j - 1)):=by
 rw [← pow_step,← Int.pow_add]
 congr 1
 omega
theorem un_get (B : List Int) (i : Nat) (hB : Byt B) : ∀ k j,j < k → un k B i / 2 ^ (8 * j) % 256 = B.getD (i + j) 0
 | 0,j,h => by omega
 | k + 1,j,h => by
  have hb:=hB.at (i + k)
  have hr:=un_rng k B i hB
  rw [pow_256] at hr
  show (un k B i + B.getD (i + k) 0 * (256 : Int) ^ k) / 2 ^ (8 * j) % 256 = _
  rw [pow_256]
  by_cases hj : j < k
  ·rw [pow_split j k hj,show un k B i + B.getD (i + k) 0 * (2 ^ (8 * j) * 256 * 2 ^ (8 * (k - j - 1))) = un k B i + 2 ^ (8 * j) * 256 * (B.getD (i + k) 0 * 2 ^ (8 * (k - j - 1))) by rw [Int.mul_left_comm],shift_same _ _ _ (pow_pos8 j)]
   exact un_get B i hB k j hj
  ·obtain rfl : j = k:=by omega
   rw [Int.add_mul_ediv_right _ _ (by have:=pow_pos8 j; omega),Int.ediv_eq_zero_of_lt hr.1 hr.2]
   omega
theorem le_numv (B : List Int) (i k : Nat) (hk : k ≤ 8) (hB : Byt B) (hl : i + k ≤ B.length) : le k (numv k B i) = (B.drop i).take k:=by
 have hn : ∃ c : Int,numv k B i = un k B i + c * 18446744073709551616:=by
  unfold numv
  rw [wrap_i64]
  refine ⟨(numv k B i - un k B i) / 18446744073709551616,?_⟩
  unfold numv
  rw [wrap_i64]
  omega
 obtain ⟨c,hc⟩:=hn
 have hL : ((B.drop i).take k).length = k:=by rw [List.length_take,List.length_drop]; omega
 refine List.ext_getElem (by rw [le_len,hL]) fun j h1 h2 => ?_
 rw [le_len] at h1
 have e1:=le_get k (numv k B i) j h1
 rw [List.getD_eq_getElem?_getD,List.getElem?_eq_getElem (by rw [le_len]; exact h1)] at e1
 simp only [Option.getD_some] at e1
 have e64 : (18446744073709551616 : Int) = 2 ^ (8 * j) * 256 * 2 ^ (8 * (8 - j - 1)):=by
  rw [← pow_split j 8 (by omega)]; rfl
 rw [e1,hc,e64,show un k B i + c * (2 ^ (8 * j) * 256 * 2 ^ (8 * (8 - j - 1))) = un k B i + 2 ^ (8 * j) * 256 * (c * 2 ^ (8 * (8 - j - 1))) by rw [Int.mul_left_comm],shift_same _ _ _ (pow_pos8 j),un_get B i hB k j h1]
 rw [List.getElem_take,List.getElem_drop,List.getD_eq_getElem?_getD,List.getElem?_eq_getElem (by omega)]
 rfl
theorem pnum_dec {k : Nat} {g : Int → Bool} {B : List Int} {i q : Nat} {n : Int} (hk : k ≤ 8) (hB : Byt B) (h : pnum k g B i = .ok n q) : q ≤ B.length ∧ B.take q = B.take i ++ le k n ∧ g n = true ∧ n = numv k B i:=by
 unfold pnum at h
 split at h
 ·rename_i h1
  split at h
  ·rename_i h2
   cases h
   exact ⟨h1,by rw [le_numv B i k hk hB h1,List.take_add],h2,rfl⟩
  ·cases h
 ·cases h
theorem andTo_inv {α β : Type} {x : Res α} {f : α → Nat → Res β} {b : β} {q : Nat} (h : x.andTo f = .ok b q) : ∃ a q1,x = .ok a q1 ∧ f a q1 = .ok b q:=by
 cases x with
 | no e p => cases h
 | ok a q1 => exact ⟨a,q1,rfl,h⟩
def flatE {α : Type} (e : α → List Int) : List α → List Int
 | [] => []
 | a :: l => e a ++ flatE e l
theorem flat_bits (k : Nat) : ∀ L : List Int,flatE (le k) L = wbits k L
 | [] => rfl
 | a :: L => congrArg (le k a ++ ·) (flat_bits k L)
theorem flat_wls : ∀ l : List Mat,flatE wm l = wls l
 | [] => rfl
 | a :: l => congrArg (wm a ++ ·) (flat_wls l)
theorem flat_wqs : ∀ Q : List (List Mat),flatE (fun l => le 1 l.length ++ wls l) Q = wqs Q
 | [] => rfl
 | a :: l => congrArg (le 1 a.length ++ wls a ++ ·) (flat_wqs l)
theorem prep_dec {α : Type} {p : Ps α} {B : List Int} {e : α → List Int} {F : α → Prop} (hp : ∀ i a q,p B i = .ok a q → i ≤ B.length → q ≤ B.length ∧ B.take q = B.take i ++ e a ∧ F a) :
  ∀ N i l q,i ≤ B.length → prep N p B i = .ok l q → q ≤ B.length ∧ B.take q = B.take i ++ flatE e l ∧ l.length = N ∧ ∀ a ∈ l,F a
 | 0,i,l,q,hi,h => by
  cases h
  exact ⟨hi,by simp [flatE],rfl,fun a ha => by cases ha⟩
 | N + 1,i,l,q,hi,h => by
  obtain ⟨a,q1,h1,h2⟩:=andTo_inv h
  obtain ⟨l2,q2,h3,h4⟩:=andTo_inv h2
  obtain ⟨e1,e2,e3⟩:=hp i a q1 h1 hi
  obtain ⟨e4,e5,e6,e7⟩:=prep_dec hp N q1 l2 q2 e1 h3
  cases h4
  refine ⟨e4,by rw [e5,e2,List.append_assoc]; rfl,by simp [e6],fun b hb => ?_⟩
  rcases List.mem_cons.1 hb with rfl | hb
  ·exact e3
  ·exact e7 b hb
theorem ckM_all {r c n : Int} {L : List Int} (h0 : ckS r c n = 0) (hl : (L.length : Int) = r * c) : ckM r c n L = 0 ↔ ∀ i,i < L.length → val (L.getD i 0) n = true:=by
 refine ⟨fun h => (ckM_ok h).2.2,fun h => ?_⟩
 unfold ckM
 rw [if_neg (fun k => k h0),if_neg (fun k => k hl),if_pos]
 rw [List.all_eq_true]
 intro x hx
 obtain ⟨i,hi,rfl⟩:=List.getElem_of_mem hx
 have:=h i hi
 rwa [List.getD_eq_getElem?_getD,List.getElem?_eq_getElem hi] at this
theorem pmat_dec {B : List Int} (hB : Byt B) (i : Nat) (m : Mat) (q : Nat) (h : pmat B i = .ok m q) (hi : i ≤ B.length) : q ≤ B.length ∧ B.take q = B.take i ++ wm m ∧ matOk m:=by
 obtain ⟨n,q1,h1,h⟩:=andTo_inv h
 obtain ⟨r,q2,h2,h⟩:=andTo_inv h
 obtain ⟨c,q3,h3,h⟩:=andTo_inv h
 obtain ⟨L,q4,h4,h⟩:=andTo_inv h
 cases h
 obtain ⟨a1,b1,c1,d1⟩:=pnum_dec (by decide) hB h1
 obtain ⟨a2,b2,c2,d2⟩:=pnum_dec (by decide) hB h2
 obtain ⟨a3,b3,c3,d3⟩:=pnum_dec (by decide) hB h3
 have hv:=numv_val n c1 B hB
 rw [beq_iff_eq] at c3
 obtain ⟨s1,s2,s3,s4⟩:=ckS_ok c3
 have hpel : ∀ j a q,pel n B j = .ok a q → j ≤ B.length → q ≤ B.length ∧ B.take q = B.take j ++ le (Int.tdiv n 8).toNat a ∧ (fin a n = true ∧ val a n = true):=fun j a q hj _ => by
  obtain ⟨a4,b4,c4,d4⟩:=pnum_dec (hv j).2.2 hB hj
  exact ⟨a4,b4,c4,by rw [d4]; exact (hv j).1⟩
 obtain ⟨a5,b5,c5,d5⟩:=prep_dec hpel _ _ _ _ a3 h4
 refine ⟨a5,?_,?_,?_⟩
 ·rw [b5,b3,b2,b1,flat_bits]
  unfold wm
  simp only [List.append_assoc]
 ·show ckM r c n L = 0
  have hll : (L.length : Int) = r * c:=by rw [c5]; exact Int.toNat_of_nonneg (Int.mul_nonneg (by omega) (by omega))
  refine (ckM_all c3 hll).2 fun j hj => ?_
  have:=(d5 (L.getD j 0) (by rw [List.getD_eq_getElem?_getD,List.getElem?_eq_getElem hj]; exact List.getElem_mem hj)).2
  exact this
 ·intro j hj
  exact (d5 (L.getD j 0) (by rw [List.getD_eq_getElem?_getD,List.getElem?_eq_getElem hj]; exact List.getElem_mem hj)).1
theorem pmats_dec {B : List Int} (hB : Byt B) {k : Nat} {mo : Int} (hk1 : 1 ≤ k) (hk : k ≤ 2) (i : Nat) (l : List Mat) (q : Nat) (h : pmats k mo B i = .ok l q) (hi : i ≤ B.length) : q ≤ B.length ∧ B.take q = B.take i ++ (le k l.length ++ wls l) ∧ ((l.length : Int) ≤ mo ∧ Oks l):=by
 obtain ⟨n,q1,h1,h⟩:=andTo_inv h
 obtain ⟨a1,b1,c1,d1⟩:=pnum_dec (by omega) hB h1
 obtain ⟨a2,b2,c2,d2⟩:=prep_dec (pmat_dec hB) _ _ _ _ a1 h
 rw [decide_eq_true_eq] at c1
 have hn0 : 0 ≤ n:=by
  rw [d1]
  have h:=un_rng k B i hB
  have e2 : (256 : Int) ^ k ≤ 256 ^ 2:=by
   have h9:=Int.ofNat_le.2 (Nat.pow_le_pow_right (n:=256) (by decide) hk)
   rw [Int.natCast_pow,Int.natCast_pow] at h9
   exact h9
  have e3 : (256 : Int) ^ 2 = 65536:=by decide
  unfold numv
  rw [wrap_i64]
  omega
 have hl : (l.length : Int) = n:=by rw [c2]; omega
 refine ⟨a2,?_,by omega,fun j m hm => d2 m (List.mem_of_getElem? hm)⟩
 rw [b2,b1,hl,flat_wls,List.append_assoc]
theorem pmk_dec {B : List Int} (hB : Byt B) : ∀ (l : List Int) (i : Nat) (q : Nat),(∀ x ∈ l,0 ≤ x ∧ x < 256) → i ≤ B.length → pmk l B i = .ok () q → q ≤ B.length ∧ B.take q = B.take i ++ l
 | [],i,q,_,hi,h => by cases h; exact ⟨hi,by simp⟩
 | x :: l,i,q,hx,hi,h => by
  obtain ⟨n,q1,h1,h⟩:=andTo_inv h
  obtain ⟨a1,b1,c1,d1⟩:=pnum_dec (by decide) hB h1
  obtain ⟨a2,b2⟩:=pmk_dec hB l q1 q (fun y hy => hx y (List.mem_cons_of_mem _ hy)) a1 h
  have e : n = x:=by simpa using c1
  have hxx:=hx x (List.mem_cons_self ..)
  have h2 : le 1 x = [x]:=by show [] ++ [x / 2 ^ 0 % 256] = [x]; rw [Int.pow_zero,Int.ediv_one,Int.emod_eq_of_lt hxx.1 hxx.2]; rfl
  exact ⟨a2,by rw [b2,b1,e,h2,List.append_assoc]; rfl⟩
theorem read_dec {B : List Int} (hB : Byt B) {s : Sta} {q : Nat} (h : rread B = .ok s q) : Frm s ∧ enc s = B:=by
 unfold rread at h
 split at h
 ·rw [pall_nest] at h
  obtain ⟨u,q0,h0,h⟩:=andTo_inv h
  obtain ⟨a,q1,h1,h⟩:=andTo_inv h
  obtain ⟨b,q2,h2,h⟩:=andTo_inv h
  obtain ⟨d,q3,h3,h⟩:=andTo_inv h
  obtain ⟨lo,q4,h4,h⟩:=andTo_inv h
  obtain ⟨ra,q5,h5,h⟩:=andTo_inv h
  obtain ⟨P,q6,h6,h⟩:=andTo_inv h
  obtain ⟨n,q7,h7,h⟩:=andTo_inv h
  obtain ⟨Q,q8,h8,h⟩:=andTo_inv h
  obtain ⟨u2,q9,h9,h⟩:=andTo_inv h
  cases h
  obtain ⟨a0,b0⟩:=pmk_dec hB mkL 0 q0 (by decide) (Nat.zero_le _) h0
  obtain ⟨a1,b1,c1,-⟩:=pnum_dec (by decide) hB h1
  obtain ⟨a2,b2,c2,-⟩:=pnum_dec (by decide) hB h2
  obtain ⟨a3,b3,c3,-⟩:=pnum_dec (by decide) hB h3
  obtain ⟨a4,b4,-,-⟩:=pnum_dec (by decide) hB h4
  obtain ⟨a5,b5,-,-⟩:=pnum_dec (by decide) hB h5
  obtain ⟨a6,b6,c6,d6⟩:=pmats_dec hB (by decide) (by decide) _ _ _ h6 a5
  obtain ⟨a7,b7,c7,d7⟩:=pnum_dec (by decide) hB h7
  obtain ⟨a8,b8,c8,d8⟩:=prep_dec (pmats_dec hB (by decide) (by decide)) _ _ _ _ a7 h8
  rw [decide_eq_true_eq] at c7
  have hn0 : 0 ≤ n:=by rw [d7]; exact (numv_small B hB q6).1
  have hl : (Q.length : Int) = n:=by rw [c8]; omega
  have hbody : B.take q8 = wbody ⟨a,b,d,P,Q,lo,ra⟩:=by
   rw [b8,b7,b6,b5,b4,b3,b2,b1,b0,flat_wqs,← hl]
   unfold wbody wbits wbits wbits wbits wbits wbits
   simp only [List.take_zero,List.nil_append,List.append_nil,List.append_assoc]
  have hF : Frm ⟨a,b,d,P,Q,lo,ra⟩:=⟨c1,c2,c3,by show P.length ≤ 64; omega,by show Q.length ≤ 64; omega,d6,fun j l hj => by
   have:=d8 l (List.mem_of_getElem? hj)
   exact ⟨by omega,this.2⟩⟩
  refine ⟨hF,?_⟩
  obtain ⟨t,q10,h10,h11⟩:=andTo_inv h9
  obtain ⟨a10,b10,-,-⟩:=pnum_dec (by decide) hB h10
  split at h11
  ·rename_i ht
   split at h11
   ·rename_i hq
    have e : B.take q10 = B:=List.take_of_length_le (by omega)
    rw [← e,b10,hbody,ht,hbody]
    rfl
   ·cases h11
  ·cases h11
 ·cases h
end Go.Proofs.Ytocjfdiimapojaa
namespace Go.Proofs.Ytocjfdiimapojaa
open Go.ChangeShapes Go.WideShapes Go.ChangeAt Go.RowKit
set_option maxHeartbeats 16000000
set_option maxRecDepth 100000
set_option linter.unusedVariables false
set_option linter.unusedSimpArgs false
theorem str_run (B : List Int) (hB : Byt B) (b off cap : Nat) (w : World) (hr : BR w b off B) : (convert 22 9 (.slice (some ⟨b,off,none⟩) B.length cap)).run Try.prog w = .ok (.string ⟨(B.map fun n => UInt8.ofNat n.toNat).toArray⟩) w:=by
 have:=run_convert_bytes_back (P:=Try.prog) w 22 9 5 ⟨b,off,none⟩ cap (B.map fun n => UInt8.ofNat n.toNat) lb_under (by kernel_rfl) str_under (fun j hj => by
  rw [List.length_map] at hj
  have h1:=hr j hj
  have h2:=hB.at j
  rw [Addr.add_lit,h1]
  rw [List.getElem_map]
  rw [List.getD_eq_getElem?_getD,List.getElem?_eq_getElem hj] at h2 ⊢
  simp only [Option.getD_some] at h2 ⊢
  generalize B[j] = x at *
  obtain ⟨X,rfl⟩:=Int.eq_ofNat_of_zero_le h2.1
  have h3 : (UInt8.ofNat (Int.toNat (X : Int))).toNat = X:=by
   rw [UInt8.toNat_ofNat',Int.toNat_natCast]
   exact Nat.mod_eq_of_lt (by omega)
  rw [h3])
 rw [List.length_map] at this
 exact this
end Go.Proofs.Ytocjfdiimapojaa
namespace Go.Proofs.Ytocjfdiimapojaa
open Go.ChangeShapes Go.WideShapes Go.ChangeAt Go.RowKit
set_option maxHeartbeats 16000000
set_option maxRecDepth 100000
set_option linter.unusedVariables false
set_option linter.unusedSimpArgs false
/-- A state value,cell by cell. -/
theorem StI.form {w : World} {v : Value} {s : Sta} (h : StI w v s) : ∃ pa pc qa qc,v = .agg #[.int .i64 s.a,.int .i64 s.b,.int .i64 s.d,.slice pa s.P.length pc,.slice qa s.Q.length qc,.int .i64 s.lo,.int .i64 s.ra]:=by
 obtain ⟨pv,qv,rfl,⟨pa,pc,rfl,-,-⟩,⟨qa,qc,rfl,-,-⟩⟩:=h
 exact ⟨pa,pc,qa,qc,rfl⟩
def SB (B : List Int) : ByteArray:=⟨(B.map fun n => UInt8.ofNat n.toNat).toArray⟩
end Go.Proofs.Ytocjfdiimapojaa
namespace Go.Proofs.Ytocjfdiimapojaa
open Go.ChangeShapes Go.WideShapes Go.ChangeAt Go.RowKit
set_option maxHeartbeats 16000000
set_option maxRecDepth 100000
set_option linter.unusedVariables false
set_option linter.unusedSimpArgs false
/-- Bytes that were copied: new ones. -/
def BN (H : Nat) (w : World) (v : Value) (L : List Int) : Prop:=(L = [] ∧ v = .slice none 0 0) ∨ ∃ g C,v = .slice (some ⟨g,0,none⟩) L.length C ∧ H ≤ g ∧ OwnV w g C 5 (L.map (Value.int .u8))
theorem BN.rd {H : Nat} {w : World} {v : Value} {L : List Int} (h : BN H w v L) : ∃ ao c,v = .slice ao L.length c ∧ L.length ≤ c ∧ (L ≠ [] → ∃ b off,ao = some ⟨b,off,none⟩ ∧ b < w.heap.size ∧ BR w b off L):=by
 rcases h with ⟨rfl,rfl⟩ | ⟨g,C,rfl,-,ho⟩
 ·exact ⟨none,0,rfl,Nat.le_refl _,fun h => absurd rfl h⟩
 ·have hc : L.length ≤ C:=by
   obtain ⟨cur,-,h2,-⟩:=ho
   simpa using h2
  exact ⟨_,C,rfl,hc,own_br ho⟩
theorem bapp_nil (L : List Int) (hlen : L.length < 100000000) (ao : Option Addr) (cap : Nat) (w : World) (hr : L ≠ [] → ∃ b off,ao = some ⟨b,off,none⟩ ∧ b < w.heap.size ∧ BR w b off L) :
  ∃ v' w',(∀ ty,(Builtin.append_ #[22,22] ty #[.slice none 0 0,.slice ao L.length cap]).run Try.prog w = .ok v' w') ∧ Kept w w' ∧ BN w.heap.size w' v' L:=by
 by_cases hne : L = []
 ·subst hne
  obtain ⟨i,hi,hz2,hs,hb⟩:=info_parts lb_info
  refine ⟨_,w,fun ty => run_append_nothing w 22 22 ty 5 i lb_under hi none 0 0 (by omega) _ ?_,Kept.refl w,.inl ⟨rfl,rfl⟩⟩
  cases ao with
  | none => exact Src.ofNil w lb_under cap
  | some a => exact Src.ofSlice w lb_under a 0 cap [] (by simp) (fun j u hu => by simp at hu) (fun u hu => by cases hu)
 ·obtain ⟨b,off,rfl,hb,hr⟩:=hr hne
  have hpos:=List.length_pos_iff.2 hne
  obtain ⟨g,C,w',hrun,hO,hk⟩:=app_gen 22 5 lb_under (.int .u8 0) 1 lb_info (by simp [Value.cells]) (by omega) w (.slice none 0 0) [] (L.map (Value.int .u8)) (.inl ⟨rfl,rfl⟩) ⟨b,off,none⟩ L.length cap (by simp) (fun j u hj => by
   rw [List.getElem?_map] at hj
   by_cases hjl : j < L.length
   ·rw [List.getElem?_eq_getElem hjl] at hj
    cases hj
    have:=hr j hjl
    rw [List.getD_eq_getElem?_getD,List.getElem?_eq_getElem hjl] at this
    rw [Addr.add_lit]
    simpa using this
   ·rw [List.getElem?_eq_none (by omega)] at hj
    cases hj) (fun u hu => by obtain ⟨x,-,rfl⟩:=List.mem_map.1 hu; rfl) hpos (by simpa using hlen)
  rcases hk with ⟨rfl,hK⟩ | ⟨e,-⟩
  ·refine ⟨_,w',fun ty => by simpa using hrun ty,hK,.inr ⟨_,C,rfl,Nat.le_refl _,by simpa using hO⟩⟩
  ·cases e
end Go.Proofs.Ytocjfdiimapojaa
