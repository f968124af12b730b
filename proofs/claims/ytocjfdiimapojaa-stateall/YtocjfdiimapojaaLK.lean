/- What is kept over several asks: rows of bytes,states that were read; one more of either. -/
import Derived.Test.YtocjfdiimapojaaLJ
import Derived.Test.YtocjfdiimapojaaLL
namespace Go.Proofs.Ytocjfdiimapojaa
open Go.ChangeShapes Go.WideShapes Go.ChangeAt Go.RowKit
set_option maxHeartbeats 16000000
set_option maxRecDepth 100000
set_option linter.unusedVariables false
set_option linter.unusedSimpArgs false
/-- A state can be read,as long as its blocks stay. -/
def TX (H E : Nat) (x : KE) (w : World) : Prop:=∀ (w' : World) (X : Nat → Prop),KX X w w' → (∀ b,H ≤ b → b < E → ¬ X b) → StI w' x.val x.s
theorem TX.kx {H E : Nat} {x : KE} {w w' : World} {Y : Nat → Prop} (h : TX H E x w) (k : KX Y w w') (hY : ∀ b,H ≤ b → b < E → ¬ Y b) : TX H E x w':=fun w2 X k2 hX => h w2 (fun b => Y b ∨ X b) ((k.mono fun b hb => .inl hb).trans (k2.mono fun b hb => .inr hb)) fun b h1 h2 h3 => h3.elim (hY b h1 h2) (hX b h1 h2)
theorem TX.up {H H' E E' : Nat} {x : KE} {w : World} (h : TX H E x w) (hH : H' ≤ H) (hE : E ≤ E') : TX H' E' x w:=fun w2 X k2 hX => h w2 X k2 fun b h1 h2 => hX b (by omega) (by omega)
/-- A state that was read,by the program and by the document. -/
structure ES where
 x : KE
 y : KE
 H : Nat
 E : Nat
 F : Nat
structure ES.ok (e : ES) (w : World) : Prop where
 o : e.H ≤ e.E ∧ e.E ≤ e.F ∧ e.F ≤ w.heap.size
 x : KRd e.H e.E w e.x
 b : KBt e.H e.E w e.x
 y : KRd e.E e.F w e.y
 s : e.x.s = e.y.s
 tx : TX e.H e.E e.x w
 ty : TX e.E e.F e.y w
theorem ES.ok.kx {e : ES} {w w' : World} {X : Nat → Prop} (h : e.ok w) (k : KX X w w') (hX : ∀ b,e.H ≤ b → b < e.F → ¬ X b) : e.ok w':=by
 have ho:=h.o
 exact ⟨⟨ho.1,ho.2.1,Nat.le_trans ho.2.2 k.size⟩,h.x.kx k fun b h1 h2 => hX b h1 (by omega),h.b.kx k fun b h1 h2 => hX b h1 (by omega),h.y.kx k fun b h1 h2 => hX b (by omega) h2,h.s,h.tx.kx k fun b h1 h2 => hX b h1 (by omega),h.ty.kx k fun b h1 h2 => hX b (by omega) h2⟩
/-- All that is kept. -/
structure KP (kb Hm : Nat) (rv wv kv sv : Value) (bvs cvs : List Value) (es : List ES) (w : World) : Prop where
 k : Bk w kb [rv,wv,kv,sv]
 kH : kb < Hm ∧ Hm ≤ w.heap.size
 r : MS 1 22 0 w rv bvs.length bvs
 c : MS 1 22 0 w wv cvs.length cvs
 rl : cvs.length = bvs.length ∧ bvs.length ≤ 90
 rb : ∀ (i : Nat) (b c : Value),bvs[i]? = some b → cvs[i]? = some c → ∃ B,Byt B ∧ B.length ≤ 14000000 ∧ ExB w b B ∧ BN 0 w c B
 rH : ∀ v ∈ bvs,∀ b,bkv v b → Hm ≤ b
 cH : ∀ v ∈ cvs,∀ b,bkv v b → Hm ≤ b
 ra : ∀ (i j : Nat) (u v : Value),bvs[i]? = some u → bvs[j]? = some v → i ≠ j → ∀ b,bkv u b → ¬ bkv v b
 s1 : MS 7 35 0 w kv es.length ((es.map ES.x).flatMap row7)
 s2 : MS 7 35 0 w sv es.length ((es.map ES.y).flatMap row7)
 sl : es.length ≤ 800
 ok : ∀ e ∈ es,e.ok w
 eH : ∀ e ∈ es,Hm ≤ e.H
 ch : es.Pairwise fun e e' => e.F ≤ e'.H
 lo : ∀ v,(v = rv ∨ v = wv ∨ v = kv ∨ v = sv) → ∀ b,bkv v b → Hm ≤ b ∧ ∀ e ∈ es,¬ (e.H ≤ b ∧ b < e.F)
 ap : (∀ b,bkv rv b → ¬ bkv wv b) ∧ (∀ b,bkv kv b → ¬ bkv sv b)
theorem BN.onx {H : Nat} {w w' : World} {v : Value} {L : List Int} {X : Nat → Prop} (h : BN H w v L) (k : KX X w w') (hX : ∀ b,bkv v b → ¬ X b) : BN H w' v L:=by
 rcases h with h | ⟨g,C,e,h0,h⟩
 ·exact .inl h
 ·refine .inr ⟨g,C,e,h0,?_⟩
  obtain ⟨cur,h1,h2⟩:=h
  exact ⟨cur,(k.block g (lt_of_block h1) (hX g ⟨_,_,e⟩)).trans h1,h2⟩
theorem BN.bk2 {H : Nat} {w : World} {v : Value} {L : List Int} (h : BN H w v L) {b : Nat} (hb : bkv v b) : ∃ cur,w.heap[b]? = some (.cells cur 5 (0,0)):=by
 obtain ⟨n,c,e⟩:=hb
 rcases h with ⟨-,e2⟩ | ⟨g,C,e2,-,cur,h1,-⟩
 ·rw [e] at e2; cases e2
 ·rw [e] at e2; cases e2; exact ⟨cur,h1⟩
theorem KP.low {kb Hm : Nat} {rv wv kv sv : Value} {bvs cvs : List Value} {es : List ES} {w : World} (h : KP kb Hm rv wv kv sv bvs cvs es w) {v : Value} (hv : v = rv ∨ v = wv ∨ v = kv ∨ v = sv) {b : Nat} (hb : bkv v b) : b < w.heap.size:=by
 rcases hv with rfl | rfl | rfl | rfl
 ·exact (ms_bk h.r b hb).2
 ·exact (ms_bk h.c b hb).2
 ·exact (ms_bk h.s1 b hb).2
 ·exact (ms_bk h.s2 b hb).2
theorem KP.kept {kb Hm : Nat} {rv wv kv sv : Value} {bvs cvs : List Value} {es : List ES} {w w' : World} (h : KP kb Hm rv wv kv sv bvs cvs es w) (k : Kept w w') : KP kb Hm rv wv kv sv bvs cvs es w' :=
 ⟨h.k.kept k,⟨h.kH.1,Nat.le_trans h.kH.2 k.below.size⟩,h.r.kept k,h.c.kept k,h.rl,fun i b c hb hc => by
  obtain ⟨B,h1,h2,h3,h4⟩:=h.rb i b c hb hc
  exact ⟨B,h1,h2,h3.kept k,h4.kept k⟩,h.rH,h.cH,h.ra,h.s1.kept k,h.s2.kept k,h.sl,fun e he => (h.ok e he).kx (k.kx fun _ => False) (fun _ _ _ h => h),h.eH,h.ch,h.lo,h.ap⟩
theorem ty_ne {w : World} {b : Nat} {c1 c2 : Array Value} {e1 e2 : TypeId} (h1 : w.heap[b]? = some (.cells c1 e1 (0,0))) (h2 : w.heap[b]? = some (.cells c2 e2 (0,0))) : e1 = e2:=by
 rw [h1] at h2
 simp at h2
 exact h2.2
/-- One state more was written. -/
theorem KP.writes {kb Hm : Nat} {rv wv kv sv : Value} {bvs cvs : List Value} {es : List ES} {w w' : World} (h : KP kb Hm rv wv kv sv bvs cvs es w) (hl : bvs.length < 90) (kx : KX (fun b => b = kb ∨ bkv rv b ∨ bkv wv b) w w') (hg : KpG kb w.heap.size rv wv kv sv bvs.length bvs cvs w') : ∃ rv' wv' bv cv,KP kb Hm rv' wv' kv sv (bvs ++ [bv]) (cvs ++ [cv]) es w':=by
 obtain ⟨B,bv,cv,rv',wv',q1,q2,q3,q4,q5,q6,q7,q8,q9,q10,q11,q12⟩:=hg
 have hlo:=h.lo
 have hkH:=h.kH
 have hsz:=kx.size
 have hXe : ∀ e ∈ es,∀ b,e.H ≤ b → b < e.F → ¬ (b = kb ∨ bkv rv b ∨ bkv wv b):=fun e he b h1 h2 hb => by
  rcases hb with rfl | hb | hb
  ·have:=h.eH e he; omega
  ·exact ((hlo rv (.inl rfl) b hb).2 e he) ⟨h1,h2⟩
  ·exact ((hlo wv (.inr (.inl rfl)) b hb).2 e he) ⟨h1,h2⟩
 have hold : ∀ v ∈ bvs,∀ b,bkv v b → b < w.heap.size:=fun v hv b hb => by
  obtain ⟨i,hi,rfl⟩:=List.getElem_of_mem hv
  obtain ⟨B1,-,-,h1,-⟩:=h.rb i _ _ (List.getElem?_eq_getElem hi) (List.getElem?_eq_getElem (by rw [h.rl.1]; exact hi))
  obtain ⟨c1,h2⟩:=h1.bk hb
  exact lt_of_block h2
 have hty : ∀ b c1,w.heap[b]? = some (.cells c1 5 (0,0)) → Hm ≤ b → ¬ (b = kb ∨ bkv rv b ∨ bkv wv b):=fun b c1 h1 h2 hb => by
  rcases hb with rfl | hb | hb
  ·omega
  ·obtain ⟨c2,h3⟩:=h.r.ty hb
   exact absurd (ty_ne h1 h3) (by decide)
  ·obtain ⟨c2,h3⟩:=h.c.ty hb
   exact absurd (ty_ne h1 h3) (by decide)
 have hts : ∀ (v : Value) (n : Nat) (V : List Value),MS 7 35 0 w v n V → (v = kv ∨ v = sv) → ∀ b,bkv v b → ¬ (b = kb ∨ bkv rv b ∨ bkv wv b):=fun v n V hm hv b hb hx => by
  obtain ⟨c1,h1⟩:=hm.ty hb
  rcases hx with rfl | hx | hx
  ·have:=(hlo v (.inr (.inr hv)) b hb).1; omega
  ·obtain ⟨c2,h3⟩:=h.r.ty hx
   exact absurd (ty_ne h1 h3) (by decide)
  ·obtain ⟨c2,h3⟩:=h.c.ty hx
   exact absurd (ty_ne h1 h3) (by decide)
 refine ⟨rv',wv',bv,cv,q3,⟨hkH.1,by omega⟩,by rw [List.length_append]; exact q4,by rw [List.length_append,h.rl.1]; exact q5,⟨by simp [h.rl.1],by simp; omega⟩,fun i b c hb hc => ?_,fun v hv b hb => ?_,fun v hv b hb => ?_,fun i j u v hu hv hij b hb hb2 => ?_,h.s1.onx kx (hts _ _ _ h.s1 (.inl rfl)),h.s2.onx kx (hts _ _ _ h.s2 (.inr rfl)),h.sl,fun e he => (h.ok e he).kx kx (hXe e he),h.eH,h.ch,fun v hv b hb => ?_,⟨q12,h.ap.2⟩⟩
 ·by_cases hi : i < bvs.length
  ·rw [List.getElem?_append_left hi] at hb
   rw [List.getElem?_append_left (by rw [h.rl.1]; exact hi)] at hc
   obtain ⟨B1,h1,h2,h3,h4⟩:=h.rb i b c hb hc
   refine ⟨B1,h1,h2,h3.onx kx fun a ha => ?_,h4.onx kx fun a ha => ?_⟩
   ·obtain ⟨c1,h5⟩:=h3.bk ha
    exact hty a c1 h5 (h.rH b (List.mem_of_getElem? hb) a ha)
   ·obtain ⟨c1,h5⟩:=h4.bk2 ha
    exact hty a c1 h5 (h.cH c (List.mem_of_getElem? hc) a ha)
  ·have hi2 : i = bvs.length:=by
    have:=(List.getElem?_eq_some_iff.1 hb).1
    simp at this
    omega
   subst hi2
   rw [List.getElem?_append_right (Nat.le_refl _),Nat.sub_self] at hb
   rw [List.getElem?_append_right (by rw [h.rl.1]; exact Nat.le_refl _),h.rl.1,Nat.sub_self] at hc
   cases hb
   cases hc
   exact ⟨B,q1,q2,q6,q8⟩
 ·rcases List.mem_append.1 hv with hv | hv
  ·exact h.rH v hv b hb
  ·rw [List.mem_singleton.1 hv] at hb
   have:=q7 b hb
   omega
 ·rcases List.mem_append.1 hv with hv | hv
  ·exact h.cH v hv b hb
  ·rw [List.mem_singleton.1 hv] at hb
   have:=q9 b hb
   omega
 ·have hnew : ∀ (k : Nat) (v : Value),(bvs ++ [bv])[k]? = some v → (k < bvs.length ∧ bvs[k]? = some v) ∨ (k = bvs.length ∧ v = bv):=fun k v hk => by
   by_cases hi : k < bvs.length
   ·rw [List.getElem?_append_left hi] at hk
    exact .inl ⟨hi,hk⟩
   ·have hi2 : k = bvs.length:=by
     have:=(List.getElem?_eq_some_iff.1 hk).1
     simp at this
     omega
    subst hi2
    rw [List.getElem?_append_right (Nat.le_refl _),Nat.sub_self] at hk
    cases hk
    exact .inr ⟨rfl,rfl⟩
  rcases hnew i u hu with ⟨h1,h2⟩ | ⟨h1,h2⟩ <;> rcases hnew j v hv with ⟨h3,h4⟩ | ⟨h3,h4⟩
  ·exact h.ra i j u v h2 h4 hij b hb hb2
  ·subst h4
   have:=hold u (List.mem_of_getElem? h2) b hb
   have:=q7 b hb2
   omega
  ·subst h2
   have:=hold v (List.mem_of_getElem? h4) b hb2
   have:=q7 b hb
   omega
  ·omega
 ·have hF : ∀ e ∈ es,w.heap.size ≤ b → ¬ (e.H ≤ b ∧ b < e.F):=fun e he h1 h2 => by have:=(h.ok e he).o; omega
  rcases hv with rfl | rfl | rfl | rfl
  ·rcases q10 b hb with h1 | h1
   ·exact hlo rv (.inl rfl) b h1
   ·exact ⟨by omega,fun e he => hF e he h1⟩
  ·rcases q11 b hb with h1 | h1
   ·exact hlo wv (.inr (.inl rfl)) b h1
   ·exact ⟨by omega,fun e he => hF e he h1⟩
  ·exact hlo v (.inr (.inr (.inl rfl))) b hb
  ·exact hlo v (.inr (.inr (.inr rfl))) b hb
/-- One state more was read. -/
theorem KP.reads {kb Hm : Nat} {rv wv kv sv : Value} {bvs cvs : List Value} {es : List ES} {w w' : World} (h : KP kb Hm rv wv kv sv bvs cvs es w) (hl : es.length < 800) (kx : KX (fun b => b = kb ∨ bkv kv b ∨ bkv sv b) w w')
  (hg : ∃ kv' sv' x y HB HF,Bk w' kb [rv,wv,kv',sv'] ∧ MS 7 35 0 w' kv' (es.length + 1) (((es.map ES.x).flatMap row7) ++ row7 x) ∧ MS 7 35 0 w' sv' (es.length + 1) (((es.map ES.y).flatMap row7) ++ row7 y) ∧ w.heap.size ≤ HB ∧ HB ≤ HF ∧ HF ≤ w'.heap.size ∧ KRd w.heap.size HB w' x ∧ KBt w.heap.size HB w' x ∧ KRd HB HF w' y ∧ x.s = y.s ∧ (∀ (w2 : World) (X : Nat → Prop),KX X w' w2 → (∀ b,w.heap.size ≤ b → b < HB → ¬ X b) → StI w2 x.val x.s) ∧ (∀ (w2 : World) (X : Nat → Prop),KX X w' w2 → (∀ b,HB ≤ b → b < HF → ¬ X b) → StI w2 y.val y.s) ∧ (∀ b,bkv kv' b → bkv kv b ∨ HF ≤ b) ∧ (∀ b,bkv sv' b → bkv sv b ∨ HF ≤ b) ∧ (∀ b,bkv kv' b → ¬ bkv sv' b)) :
  ∃ kv' sv' e,KP kb Hm rv wv kv' sv' bvs cvs (es ++ [e]) w':=by
 obtain ⟨kv',sv',x,y,HB,HF,q1,q2,q3,q4,q5,q6,q7,q8,q9,q10,q11,q12,q13,q14,q15⟩:=hg
 have hlo:=h.lo
 have hkH:=h.kH
 have hsz:=kx.size
 have hXe : ∀ e ∈ es,∀ b,e.H ≤ b → b < e.F → ¬ (b = kb ∨ bkv kv b ∨ bkv sv b):=fun e he b h1 h2 hb => by
  rcases hb with rfl | hb | hb
  ·have:=h.eH e he; omega
  ·exact ((hlo kv (.inr (.inr (.inl rfl))) b hb).2 e he) ⟨h1,h2⟩
  ·exact ((hlo sv (.inr (.inr (.inr rfl))) b hb).2 e he) ⟨h1,h2⟩
 have hty : ∀ b c1,w.heap[b]? = some (.cells c1 5 (0,0)) → Hm ≤ b → ¬ (b = kb ∨ bkv kv b ∨ bkv sv b):=fun b c1 h1 h2 hb => by
  rcases hb with rfl | hb | hb
  ·omega
  ·obtain ⟨c2,h3⟩:=h.s1.ty hb
   exact absurd (ty_ne h1 h3) (by decide)
  ·obtain ⟨c2,h3⟩:=h.s2.ty hb
   exact absurd (ty_ne h1 h3) (by decide)
 have htr : ∀ (v : Value) (n : Nat) (V : List Value),MS 1 22 0 w v n V → (v = rv ∨ v = wv) → ∀ b,bkv v b → ¬ (b = kb ∨ bkv kv b ∨ bkv sv b):=fun v n V hm hv b hb hx => by
  obtain ⟨c1,h1⟩:=hm.ty hb
  rcases hx with rfl | hx | hx
  ·have:=(hlo v (hv.imp id .inl) b hb).1; omega
  ·obtain ⟨c2,h3⟩:=h.s1.ty hx
   exact absurd (ty_ne h1 h3) (by decide)
  ·obtain ⟨c2,h3⟩:=h.s2.ty hx
   exact absurd (ty_ne h1 h3) (by decide)
 refine ⟨kv',sv',⟨x,y,w.heap.size,HB,HF⟩,q1,⟨hkH.1,by omega⟩,h.r.onx kx (htr _ _ _ h.r (.inl rfl)),h.c.onx kx (htr _ _ _ h.c (.inr rfl)),h.rl,fun i b c hb hc => ?_,h.rH,h.cH,h.ra,?_,?_,by simp; omega,fun e he => ?_,fun e he => ?_,?_,fun v hv b hb => ?_,⟨h.ap.1,q15⟩⟩
 ·obtain ⟨B1,h1,h2,h3,h4⟩:=h.rb i b c hb hc
  refine ⟨B1,h1,h2,h3.onx kx fun a ha => ?_,h4.onx kx fun a ha => ?_⟩
  ·obtain ⟨c1,h5⟩:=h3.bk ha
   exact hty a c1 h5 (h.rH b (List.mem_of_getElem? hb) a ha)
  ·obtain ⟨c1,h5⟩:=h4.bk2 ha
   exact hty a c1 h5 (h.cH c (List.mem_of_getElem? hc) a ha)
 ·have e1 : (es ++ [(⟨x,y,w.heap.size,HB,HF⟩ : ES)]).length = es.length + 1:=by simp
  have e2 : ((es ++ [(⟨x,y,w.heap.size,HB,HF⟩ : ES)]).map ES.x).flatMap row7 = ((es.map ES.x).flatMap row7) ++ row7 x:=by simp
  rw [e1,e2]
  exact q2
 ·have e1 : (es ++ [(⟨x,y,w.heap.size,HB,HF⟩ : ES)]).length = es.length + 1:=by simp
  have e2 : ((es ++ [(⟨x,y,w.heap.size,HB,HF⟩ : ES)]).map ES.y).flatMap row7 = ((es.map ES.y).flatMap row7) ++ row7 y:=by simp
  rw [e1,e2]
  exact q3
 ·rcases List.mem_append.1 he with he | he
  ·exact (h.ok e he).kx kx (hXe e he)
  ·obtain rfl:=List.mem_singleton.1 he
   exact ⟨⟨q4,q5,q6⟩,q7,q8,q9,q10,q11,q12⟩
 ·rcases List.mem_append.1 he with he | he
  ·exact h.eH e he
  ·obtain rfl:=List.mem_singleton.1 he
   exact hkH.2
 ·rw [List.pairwise_append]
  refine ⟨h.ch,List.pairwise_singleton _ _,fun a ha b hb => ?_⟩
  obtain rfl:=List.mem_singleton.1 hb
  exact (h.ok a ha).o.2.2
 ·have hnew : ∀ e ∈ es ++ [(⟨x,y,w.heap.size,HB,HF⟩ : ES)],HF ≤ b → ¬ (e.H ≤ b ∧ b < e.F):=fun e he h1 h2 => by
   rcases List.mem_append.1 he with he | he
   ·have:=(h.ok e he).o; omega
   ·obtain rfl:=List.mem_singleton.1 he
    have:=h2.2
    simp only at this
    omega
  have hold : (v = rv ∨ v = wv ∨ v = kv ∨ v = sv) → Hm ≤ b ∧ ∀ e ∈ es ++ [(⟨x,y,w.heap.size,HB,HF⟩ : ES)],¬ (e.H ≤ b ∧ b < e.F):=fun hv2 => by
   refine ⟨(hlo v hv2 b hb).1,fun e he => ?_⟩
   rcases List.mem_append.1 he with he | he
   ·exact (hlo v hv2 b hb).2 e he
   ·obtain rfl:=List.mem_singleton.1 he
    intro h2
    have h3:=h.low hv2 hb
    have:=h2.1
    simp only at this
    omega
  have hold2 : ∀ v2,(v2 = rv ∨ v2 = wv ∨ v2 = kv ∨ v2 = sv) → bkv v2 b → Hm ≤ b ∧ ∀ e ∈ es ++ [(⟨x,y,w.heap.size,HB,HF⟩ : ES)],¬ (e.H ≤ b ∧ b < e.F):=fun v2 hv2 hb2 => by
   refine ⟨(hlo v2 hv2 b hb2).1,fun e he => ?_⟩
   rcases List.mem_append.1 he with he | he
   ·exact (hlo v2 hv2 b hb2).2 e he
   ·obtain rfl:=List.mem_singleton.1 he
    intro h2
    have h3:=h.low hv2 hb2
    have:=h2.1
    simp only at this
    omega
  rcases hv with rfl | rfl | rfl | rfl
  ·exact hold (.inl rfl)
  ·exact hold (.inr (.inl rfl))
  ·rcases q13 b hb with h1 | h1
   ·exact hold2 kv (.inr (.inr (.inl rfl))) h1
   ·exact ⟨by omega,fun e he => hnew e he h1⟩
  ·rcases q14 b hb with h1 | h1
   ·exact hold2 sv (.inr (.inr (.inr rfl))) h1
   ·exact ⟨by omega,fun e he => hnew e he h1⟩
end Go.Proofs.Ytocjfdiimapojaa
