/- What was read,by the program and by the document,as it is kept. -/
import Derived.Test.YtocjfdiimapojaaLC
import Derived.Test.YtocjfdiimapojaaZX
import Derived.Test.YtocjfdiimapojaaMI
namespace Go.Proofs.Ytocjfdiimapojaa
open Go.ChangeShapes Go.WideShapes Go.ChangeAt Go.RowKit
set_option maxHeartbeats 16000000
set_option maxRecDepth 100000
set_option linter.unusedVariables false
set_option linter.unusedSimpArgs false
/-- What is told of a reading: a fault with its place,a state (none where there is a fault). -/
def rEr : Res Sta → Int
 | .no e _ => e
 | .ok _ _ => 0
def rPl : Res Sta → Int
 | .no _ p => p
 | .ok _ _ => 0
def rSt : Res Sta → Sta
 | .no _ _ => ⟨0,0,0,[],[],0,0⟩
 | .ok s _ => s
/-- A list of values,each in blocks behind those of the ones ahead of it. -/
def VsC (E : Nat) : Nat → List Value → Prop
 | _,[] => True
 | H,v :: r => ∃ F,H ≤ F ∧ F ≤ E ∧ (∀ b,bkv v b → H ≤ b ∧ b < F) ∧ VsC E F r
theorem VsC.bd {E : Nat} : ∀ {H : Nat} {L : List Value},VsC E H L → ∀ v ∈ L,∀ b,bkv v b → H ≤ b ∧ b < E
 | _,[],_,v,hv => by cases hv
 | H,u :: r,⟨F,h1,h2,h3,h4⟩,v,hv => fun b hb => by
  rcases List.mem_cons.1 hv with rfl | hv
  ·have:=h3 b hb; omega
  ·have:=VsC.bd h4 v hv b hb; omega
theorem VsC.al {E : Nat} : ∀ {H : Nat} {L : List Value},VsC E H L → ∀ u ∈ L,∀ v ∈ L,u = v ∨ ∀ b,bkv u b → ¬ bkv v b
 | _,[],_,u,hu,_,_ => by cases hu
 | H,x :: r,⟨F,h1,h2,h3,h4⟩,u,hu,v,hv => by
  rcases List.mem_cons.1 hu with e | hu2
  ·rcases List.mem_cons.1 hv with e2 | hv2
   ·exact .inl (e.trans e2.symm)
   ·exact .inr fun b hb hb2 => by rw [e] at hb; have:=h3 b hb; have:=VsC.bd h4 v hv2 b hb2; omega
  ·rcases List.mem_cons.1 hv with e2 | hv2
   ·exact .inr fun b hb hb2 => by rw [e2] at hb2; have:=h3 b hb2; have:=VsC.bd h4 u hu2 b hb; omega
   ·exact VsC.al h4 u hu2 v hv2
theorem MsV.app {E E2 F : Nat} {w : World} (hE : E ≤ E2) (hF : E ≤ F) : ∀ {H : Nat} {l l' : List Mat} {V V' : List Value},H ≤ E → MsV E w H l V → MsV E2 w F l' V' → MsV E2 w H (l ++ l') (V ++ V')
 | _,[],_,_,_,hH,h,h' => by cases h; exact h'.mono (by omega)
 | _,m :: l,_,_,_,hH,⟨g,V1,e,hg,hg2,ho,h⟩,h' => ⟨g,V1 ++ _,by rw [e,List.append_assoc],hg,by omega,ho,MsV.app hE hF (by omega) h h'⟩
theorem MsV.up {E E2 : Nat} {w : World} (hE : E ≤ E2) {H : Nat} {l : List Mat} {V : List Value} (h : MsV E w H l V) : MsV E2 w H l V:=h.on hE fun _ _ _ _ _ => rfl
/-- The lists of a list,with their cells. -/
theorem SsV.ke {E : Nat} {w : World} : ∀ {H : Nat} {Q : List (List Mat)} {vs : List Value},H ≤ E → SsV E w H Q vs → vs.length = Q.length ∧ VsC E H vs ∧ ∃ VQ : List (List Value),VQ.length = Q.length ∧ (∀ (j : Nat) (l : List Mat) (V : List Value),Q[j]? = some l → VQ[j]? = some V → ∃ lv,vs[j]? = some lv ∧ MS 4 54 0 w lv l.length V) ∧ MsV E w H Q.flatten VQ.flatten
 | _,[],vs,hH,h => by
  cases h
  exact ⟨rfl,trivial,[],rfl,fun j l V h => by simp at h,rfl⟩
 | H,l :: Q,_,hH,⟨v,V',F,e,hF,hF2,hl,h⟩ => by
  subst e
  obtain ⟨h1,h2,VQ,h3,h4,h5⟩:=SsV.ke hF2 h
  obtain ⟨⟨V,hm,hv⟩,hnil,hb⟩:=hl
  refine ⟨by simp [h1],⟨F,hF,hF2,fun b ⟨n,c,e⟩ => ⟨?_,hb b n c e⟩,h2⟩,V :: VQ,by simp [h3],fun j l' V2 hl' hV2 => ?_,?_⟩
  ·rcases hm with ⟨-,-,e2⟩ | ⟨g,cap,e2,hg,-⟩
   ·rw [e] at e2; cases e2
   ·rw [e] at e2; cases e2; exact hg
  ·match j with
   | 0 =>
    simp only [List.getElem?_cons_zero,Option.some.injEq] at hl' hV2
    subst hl' hV2
    exact ⟨v,rfl,hm.mono (Nat.zero_le _)⟩
   | j + 1 =>
    obtain ⟨lv,h6,h7⟩:=h4 j l' V2 (by simpa using hl') (by simpa using hV2)
    exact ⟨lv,by simpa using h6,h7⟩
  ·rw [List.flatten_cons,List.flatten_cons]
   exact MsV.app hF2 (Nat.le_refl _) hF hv h5
theorem MsV.gets {E : Nat} {w : World} : ∀ {H : Nat} {l : List Mat} {V : List Value},MsV E w H l V → ∀ (i : Nat) (m : Mat),l[i]? = some m → ∃ g,H ≤ g ∧ g < E ∧ Own w g m.L.length m.L ∧ V[i * 4]? = some (.int .i64 m.r) ∧ V[i * 4 + 1]? = some (.int .i64 m.c) ∧ V[i * 4 + 2]? = some (.int .i64 m.n) ∧ V[i * 4 + 3]? = some (.slice (some ⟨g,0,none⟩) m.L.length m.L.length)
 | _,[],_,_,i,m,hi => by simp at hi
 | _,x :: l,_,⟨g,V',e,hg,hg2,ho,h⟩,0,m,hi => by
  cases hi
  subst e
  exact ⟨g,hg,hg2,ho,rfl,rfl,rfl,rfl⟩
 | _,x :: l,_,⟨g,V',e,hg,hg2,ho,h⟩,i + 1,m,hi => by
  obtain ⟨g2,hg3,hg4,ho2,h0,h1,h2,h3⟩:=MsV.gets h i m (by simpa using hi)
  subst e
  refine ⟨g2,by omega,hg4,ho2,?_,?_,?_,?_⟩
  ·rw [List.getElem?_append_right (by show 4 ≤ _; omega),show (i + 1) * 4 - (mc4 x g).length = i * 4 by show (i + 1) * 4 - 4 = _; omega]; exact h0
  ·rw [List.getElem?_append_right (by show 4 ≤ _; omega),show (i + 1) * 4 + 1 - (mc4 x g).length = i * 4 + 1 by show (i + 1) * 4 + 1 - 4 = _; omega]; exact h1
  ·rw [List.getElem?_append_right (by show 4 ≤ _; omega),show (i + 1) * 4 + 2 - (mc4 x g).length = i * 4 + 2 by show (i + 1) * 4 + 2 - 4 = _; omega]; exact h2
  ·rw [List.getElem?_append_right (by show 4 ≤ _; omega),show (i + 1) * 4 + 3 - (mc4 x g).length = i * 4 + 3 by show (i + 1) * 4 + 3 - 4 = _; omega]; exact h3
theorem MsV.len {E : Nat} {w : World} : ∀ {H : Nat} {l : List Mat} {V : List Value},MsV E w H l V → V.length = l.length * 4
 | _,[],_,h => by cases h; rfl
 | _,x :: l,_,⟨g,V',e,_,_,_,h⟩ => by
  subst e
  have:=MsV.len h
  simp [mc4,this]
  omega
theorem MsV.one {E : Nat} {w : World} : ∀ {H : Nat} {l : List Mat} {V : List Value},MsV E w H l V → ∀ u ∈ V,u.oneCell' = true
 | _,[],_,h,u,hu => by cases h; cases hu
 | _,x :: l,_,⟨g,V',e,_,_,_,h⟩,u,hu => by
  subst e
  rcases List.mem_append.1 hu with hu | hu
  ·simp only [mc4,List.mem_cons,List.not_mem_nil,or_false] at hu
   rcases hu with rfl | rfl | rfl | rfl <;> rfl
  ·exact MsV.one h u hu
/-- The lists of bits lie apart. -/
theorem MsV.asc {E : Nat} {w : World} : ∀ {H : Nat} {l : List Mat} {V : List Value},MsV E w H l V → ∀ i j u v b,i < j → V[i * 4 + 3]? = some u → V[j * 4 + 3]? = some v → bkv u b → ¬ bkv v b
 | _,[],_,h,i,j,u,v,b,_,hu,_ => by cases h; simp at hu
 | _,x :: l,_,⟨g,V',e,hg,hg2,ho,h⟩,i,j,u,v,b,hij,hu,hv => by
  subst e
  match j,hij with
  | j + 1,hij =>
   rw [List.getElem?_append_right (by show 4 ≤ _; omega),show (j + 1) * 4 + 3 - (mc4 x g).length = j * 4 + 3 by show (j + 1) * 4 + 3 - 4 = _; omega] at hv
   match i with
   | 0 =>
    cases hu
    rintro ⟨n,c,e⟩ ⟨n2,c2,e2⟩
    cases e
    have hjl : j < l.length:=by
     have h1:=(List.getElem?_eq_some_iff.1 hv).1
     have h2:=h.len
     omega
    obtain ⟨g2,h3,-,-,-,-,-,h4⟩:=h.gets j _ (List.getElem?_eq_getElem hjl)
    rw [h4] at hv
    cases hv
    cases e2
    omega
   | i + 1 =>
    rw [List.getElem?_append_right (by show 4 ≤ _; omega),show (i + 1) * 4 + 3 - (mc4 x g).length = i * 4 + 3 by show (i + 1) * 4 + 3 - 4 = _; omega] at hu
    exact MsV.asc h i j u v b (by omega) hu hv
/-- Where the lists of a state lie,and what their cells are. -/
structure KRd (H E : Nat) (w : World) (x : KE) : Prop where
 ok : x.ok w
 hl : ∀ u ∈ x.pv :: x.vs,∀ b,bkv u b → H ≤ b ∧ b < E
 hq : ∀ b,bkv x.qv b → H ≤ b ∧ b < E
 ce : ∀ (j : Nat) (m : Mat),x.ms[j]? = some m → x.V[j * 4]? = some (.int .i64 m.r) ∧ x.V[j * 4 + 1]? = some (.int .i64 m.c) ∧ x.V[j * 4 + 2]? = some (.int .i64 m.n)
structure KBt (H E : Nat) (w : World) (x : KE) : Prop where
 hb : ∀ (i : Nat) (v : Value),(bslM x.V)[i]? = some v → ∃ g n L,v = .slice (some ⟨g,0,none⟩) n n ∧ L.length = n ∧ n ≤ 4096 ∧ Own w g n L ∧ H ≤ g ∧ g < E
 ab : ∀ (i j : Nat) (u v : Value),(bslM x.V)[i]? = some u → (bslM x.V)[j]? = some v → i ≠ j → ∀ b,bkv u b → ¬ bkv v b
 al : ∀ u ∈ x.pv :: x.vs,∀ v ∈ x.pv :: x.vs,u = v ∨ ∀ b,bkv u b → ¬ bkv v b
theorem KE.ok.onb {x : KE} {w w' : World} {X : Nat → Prop} (h : x.ok w) (k : KX X w w') (h1 : ∀ u ∈ x.pv :: x.vs,∀ b,bkv u b → ¬ X b) (h2 : ∀ b,bkv x.qv b → ¬ X b) : x.ok w' :=
 ⟨h.p.onx k (h1 _ (List.mem_cons_self ..)),h.q.onx k h2,h.ql,fun j l V hl hV => by
  obtain ⟨lv,h3,h4⟩:=h.l j l V hl hV
  exact ⟨lv,h3,h4.onx k (h1 lv (List.mem_cons_of_mem _ (List.mem_of_getElem? h3)))⟩,h.o,h.n,h.sl⟩
theorem KRd.kx {H E : Nat} {w w' : World} {x : KE} {X : Nat → Prop} (h : KRd H E w x) (k : KX X w w') (hX : ∀ b,H ≤ b → b < E → ¬ X b) : KRd H E w' x :=
 ⟨h.ok.onb k (fun u hu b hb => hX b (h.hl u hu b hb).1 (h.hl u hu b hb).2) (fun b hb => hX b (h.hq b hb).1 (h.hq b hb).2),h.hl,h.hq,h.ce⟩
theorem KRd.up {H H' E E' : Nat} {w : World} {x : KE} (h : KRd H E w x) (hH : H' ≤ H) (hE : E ≤ E') : KRd H' E' w x :=
 ⟨h.ok,fun u hu b hb => by have:=h.hl u hu b hb; omega,fun b hb => by have:=h.hq b hb; omega,h.ce⟩
theorem KBt.kx {H E : Nat} {w w' : World} {x : KE} {X : Nat → Prop} (h : KBt H E w x) (k : KX X w w') (hX : ∀ b,H ≤ b → b < E → ¬ X b) : KBt H E w' x :=
 ⟨fun i v hv => by
  obtain ⟨g,n,L,a1,a2,a3,a4,a5,a6⟩:=h.hb i v hv
  exact ⟨g,n,L,a1,a2,a3,ownS1.1 ((ownS1.2 a4).on (k.block g a4.lt (hX g a5 a6))),a5,a6⟩,h.ab,h.al⟩
theorem KBt.up {H H' E E' : Nat} {w : World} {x : KE} (h : KBt H E w x) (hH : H' ≤ H) (hE : E ≤ E') : KBt H' E' w x :=
 ⟨fun i v hv => by
  obtain ⟨g,n,L,a1,a2,a3,a4,a5,a6⟩:=h.hb i v hv
  exact ⟨g,n,L,a1,a2,a3,a4,by omega,by omega⟩,h.ab,h.al⟩
theorem bslM_inv (k : Nat) (V : List Value) (hV : V.length = k * 4) (j : Nat) (v : Value) (h : (bslM V)[j]? = some v) : j < k ∧ V[j * 4 + 3]? = some v:=by
 have hj : j < k:=by
  have h1:=(List.getElem?_eq_some_iff.1 h).1
  rw [bslM_len k V hV] at h1
  exact h1
 obtain ⟨u,h1,h2⟩:=bslM_get k V hV j hj
 rw [h] at h1
 cases h1
 exact ⟨hj,h2⟩
theorem MsV.shrink {E : Nat} {w : World} : ∀ {H : Nat} {l : List Mat} {V : List Value},MsV E w H l V → MsV w.heap.size w H l V
 | _,[],_,h => h
 | _,m :: l,_,⟨g,V1,e,hg,hg2,ho,h⟩ => ⟨g,V1,e,hg,ho.lt,ho,MsV.shrink h⟩
theorem ms_bk {sz : Nat} {e : TypeId} {H : Nat} {w : World} {v : Value} {k : Nat} {V : List Value} (h : MS sz e H w v k V) : ∀ b,bkv v b → H ≤ b ∧ b < w.heap.size:=fun b ⟨n,c,e1⟩ => by
 rcases h with ⟨-,-,e2⟩ | ⟨g,cap,e2,hg,-,-,ho⟩
 ·rw [e1] at e2; cases e2
 ·rw [e1] at e2; cases e2; exact ⟨hg,ho.lt⟩
theorem StV.ke {H : Nat} {w : World} {v : Value} {s : Sta} (h : StV H w v s) (hf : Frm s) (hH : H ≤ w.heap.size) : ∃ x : KE,x.val = v ∧ x.s = s ∧ KRd H w.heap.size w x ∧ KBt H w.heap.size w x:=by
 obtain ⟨pv,qv,K0,rfl,hHK0,⟨⟨VP,hp,hpv0⟩,hpn,hpb0⟩,⟨vs,hq0,hqs0⟩,-⟩:=h
 obtain ⟨K,hHK,hKw,hpv,hpb,hq,hqs⟩ : ∃ K,H ≤ K ∧ K ≤ w.heap.size ∧ MsV K w H s.P VP ∧ (∀ b,bkv pv b → b < K) ∧ MS 1 32 K w qv s.Q.length vs ∧ SsV w.heap.size w K s.Q vs:=by
  by_cases hK : K0 ≤ w.heap.size
  ·exact ⟨K0,hHK0,hK,hpv0,fun b ⟨n,c,e⟩ => hpb0 b n c e,hq0,hqs0⟩
  ·rcases hq0 with ⟨h0,h1,h2⟩ | ⟨g,cap,e2,hg,-,-,ho⟩
   ·have hQ : s.Q = []:=List.length_eq_zero_iff.1 h0
    refine ⟨w.heap.size,hH,Nat.le_refl _,hpv0.shrink,fun b hb => (ms_bk hp b hb).2,.inl ⟨h0,h1,h2⟩,?_⟩
    rw [hQ,h1]
    rfl
   ·have:=ho.lt
    omega
 obtain ⟨hvl,hvc,VQ,hVQ,hVs,hVf⟩:=hqs.ke hKw
 have hall : MsV w.heap.size w H (s.P ++ s.Q.flatten) (VP ++ VQ.flatten):=MsV.app hKw (Nat.le_refl _) hHK hpv hVf
 have hlen : (VP ++ VQ.flatten).length = (s.P ++ s.Q.flatten).length * 4:=hall.len
 have hvsC : VsC w.heap.size H (pv :: vs):=⟨K,hHK,hKw,fun b hb => ⟨(ms_bk hp b hb).1,hpb b hb⟩,hvc⟩
 have hmm : ∀ m ∈ s.P ++ s.Q.flatten,matOk m:=fun m hm => by
  rcases List.mem_append.1 hm with h1 | h1
  ·obtain ⟨i,hi,rfl⟩:=List.getElem_of_mem h1
   exact hf.p i _ (List.getElem?_eq_getElem hi)
  ·obtain ⟨l,hl,h2⟩:=List.mem_flatten.1 h1
   obtain ⟨j,hj,rfl⟩:=List.getElem_of_mem hl
   obtain ⟨i,hi,rfl⟩:=List.getElem_of_mem h2
   exact (hf.q j _ (List.getElem?_eq_getElem hj)).2 i _ (List.getElem?_eq_getElem hi)
 refine ⟨⟨s,pv,VP,qv,vs,VQ⟩,rfl,rfl,⟨⟨hp.mono (Nat.zero_le _),hq.mono (Nat.zero_le _),hVQ,hVs,hall.one,⟨hf.pl,hf.ql,fun l hl => ?_⟩,fun j d hd => ?_⟩,hvsC.bd,fun b hb => ⟨Nat.le_trans hHK (ms_bk hq b hb).1,(ms_bk hq b hb).2⟩,fun j m hm => ?_⟩,⟨fun i v hv => ?_,fun i j u v hu hv hij b hb hb2 => ?_,hvsC.al⟩⟩
 ·obtain ⟨j,hj,rfl⟩:=List.getElem_of_mem hl
  exact (hf.q j _ (List.getElem?_eq_getElem hj)).1
 ·have hd : (VP ++ VQ.flatten)[j * 4 + 3]? = some d:=hd
  have hj : j < (s.P ++ s.Q.flatten).length:=by
   have h1:=(List.getElem?_eq_some_iff.1 hd).1
   omega
  obtain ⟨g,-,-,-,-,-,-,h1⟩:=hall.gets j _ (List.getElem?_eq_getElem hj)
  rw [h1] at hd
  cases hd
  exact ⟨_,_,_,rfl⟩
 ·obtain ⟨g,-,-,-,h0,h1,h2,-⟩:=hall.gets j m hm
  exact ⟨h0,h1,h2⟩
 ·obtain ⟨hj,h3⟩:=bslM_inv _ _ hlen i v hv
  obtain ⟨g,a1,a2,a3,-,-,-,h1⟩:=hall.gets i _ (List.getElem?_eq_getElem hj)
  rw [h1] at h3
  cases h3
  exact ⟨g,_,_,rfl,rfl,(szM_rng (hmm _ (List.getElem_mem hj))).2.2.2.1,a3,a1,a2⟩
 ·obtain ⟨hi,h3⟩:=bslM_inv _ _ hlen i u hu
  obtain ⟨hj,h4⟩:=bslM_inv _ _ hlen j v hv
  rcases Nat.lt_or_gt_of_ne hij with h | h
  ·exact hall.asc i j u v b h h3 h4 hb hb2
  ·exact hall.asc j i v u b h h4 h3 hb2 hb
theorem MsD.one {H : Nat} {w : World} : ∀ {l : List Mat} {V : List Value},MsD H w l V → V.length = l.length * 4 ∧ (∀ u ∈ V,u.oneCell' = true)
 | [],_,h => by cases h; exact ⟨rfl,fun u hu => by cases hu⟩
 | x :: l,_,⟨g,C,V',e,_,_,h⟩ => by
  subst e
  obtain ⟨h1,h2⟩:=MsD.one h
  refine ⟨by simp [mcD,h1]; omega,fun u hu => ?_⟩
  rcases List.mem_append.1 hu with hu | hu
  ·simp only [mcD,List.mem_cons,List.not_mem_nil,or_false] at hu
   rcases hu with rfl | rfl | rfl | rfl <;> rfl
  ·exact h2 u hu
theorem MsD.app {H : Nat} {w : World} : ∀ {l l' : List Mat} {V V' : List Value},MsD H w l V → MsD H w l' V' → MsD H w (l ++ l') (V ++ V')
 | [],_,_,_,h,h' => by cases h; exact h'
 | m :: l,_,_,_,⟨g,C,V1,e,hg,ho,h⟩,h' => ⟨g,C,V1 ++ _,by rw [e,List.append_assoc],hg,ho,MsD.app h h'⟩
theorem SdV.ke {H : Nat} {w : World} : ∀ {Q : List (List Mat)} {vs : List Value},SdV H w Q vs → (∀ v ∈ vs,∀ b,bkv v b → H ≤ b ∧ b < w.heap.size) ∧ ∃ VQ : List (List Value),VQ.length = Q.length ∧ (∀ (j : Nat) (l : List Mat) (V : List Value),Q[j]? = some l → VQ[j]? = some V → ∃ lv,vs[j]? = some lv ∧ MS 4 54 0 w lv l.length V) ∧ MsD H w Q.flatten VQ.flatten
 | [],vs,h => by
  cases h
  exact ⟨fun v hv => (by cases hv),[],rfl,fun j l V h => (by simp at h),rfl⟩
 | l :: Q,_,⟨v,V',e,⟨V,hm,hv⟩,h⟩ => by
  subst e
  obtain ⟨h1,VQ,h3,h4,h5⟩:=SdV.ke h
  refine ⟨fun u hu b hb => ?_,V :: VQ,by simp [h3],fun j l' V2 hl' hV2 => ?_,?_⟩
  ·rcases List.mem_cons.1 hu with e | hu
   ·rw [e] at hb; exact ms_bk hm b hb
   ·exact h1 u hu b hb
  ·match j with
   | 0 =>
    simp only [List.getElem?_cons_zero,Option.some.injEq] at hl' hV2
    subst hl' hV2
    exact ⟨v,rfl,hm.mono (Nat.zero_le _)⟩
   | j + 1 =>
    obtain ⟨lv,h6,h7⟩:=h4 j l' V2 (by simpa using hl') (by simpa using hV2)
    exact ⟨lv,by simpa using h6,h7⟩
  ·rw [List.flatten_cons,List.flatten_cons]
   exact hv.app h5
theorem StD.ke {H : Nat} {w : World} {v : Value} {s : Sta} (h : StD H w v s) (hf : Frm s) : ∃ x : KE,x.val = v ∧ x.s = s ∧ KRd H w.heap.size w x:=by
 obtain ⟨pv,qv,rfl,⟨VP,hp,hpv⟩,⟨vs,hq,hqs⟩⟩:=h
 obtain ⟨hvb,VQ,hVQ,hVs,hVf⟩:=hqs.ke
 have hall : MsD H w (s.P ++ s.Q.flatten) (VP ++ VQ.flatten):=hpv.app hVf
 obtain ⟨hlen,hone⟩:=hall.one
 refine ⟨⟨s,pv,VP,qv,vs,VQ⟩,rfl,rfl,⟨⟨hp.mono (Nat.zero_le _),hq.mono (Nat.zero_le _),hVQ,hVs,hone,⟨hf.pl,hf.ql,fun l hl => ?_⟩,fun j d hd => ?_⟩,fun u hu b hb => ?_,ms_bk hq,fun j m hm => ?_⟩⟩
 ·obtain ⟨j,hj,rfl⟩:=List.getElem_of_mem hl
  exact (hf.q j _ (List.getElem?_eq_getElem hj)).1
 ·have hd : (VP ++ VQ.flatten)[j * 4 + 3]? = some d:=hd
  have hj : j < (s.P ++ s.Q.flatten).length:=by
   have h1:=(List.getElem?_eq_some_iff.1 hd).1
   omega
  obtain ⟨g,C,-,-,-,-,-,h1⟩:=hall.get j _ (List.getElem?_eq_getElem hj)
  rw [h1] at hd
  cases hd
  exact ⟨_,_,_,rfl⟩
 ·rcases List.mem_cons.1 hu with e | hu
  ·rw [e] at hb; exact ms_bk hp b hb
  ·exact hvb u hu b hb
 ·obtain ⟨g,C,-,-,h0,h1,h2,-⟩:=hall.get j m hm
  exact ⟨h0,h1,h2⟩
/-- No state. -/
def ke0 : KE:=⟨⟨0,0,0,[],[],0,0⟩,.slice none 0 0,[],.slice none 0 0,[],[]⟩
theorem bk_nil (b : Nat) : ¬ bkv (.slice none 0 0) b:=fun ⟨n,c,e⟩ => by cases e
theorem ke0_rd (H E : Nat) (w : World) : KRd H E w ke0 :=
 ⟨⟨.inl ⟨rfl,rfl,rfl⟩,.inl ⟨rfl,rfl,rfl⟩,rfl,fun j l V h => by simp [ke0] at h,fun u hu => by simp [ke0] at hu,⟨by decide,by decide,fun l hl => by simp [ke0] at hl⟩,fun j d hd => by simp [ke0] at hd⟩,fun u hu b hb => by
  simp only [ke0,List.mem_cons,List.not_mem_nil,or_false] at hu
  rw [hu] at hb
  exact absurd hb (bk_nil b),fun b hb => absurd hb (bk_nil b),fun j m hm => by simp [ke0,KE.ms] at hm⟩
theorem ke0_bt (H E : Nat) (w : World) : KBt H E w ke0 :=
 ⟨fun i v hv => by simp [ke0,KE.V,bslM] at hv,fun i j u v hu => by simp [ke0,KE.V,bslM] at hu,fun u hu v hv => by
  simp only [ke0,List.mem_cons,List.not_mem_nil,or_false] at hu hv
  exact .inl (hu.trans hv.symm)⟩
theorem RdR.ke {H : Nat} {B : List Int} (hB : Byt B) {e : Ending} {w : World} (h : RdR H (rread B) e w) (hH : H ≤ w.heap.size) : ∃ x : KE,e = .returned (.tuple #[x.val,.int .i64 (rPl (rread B)),.int .i64 (rEr (rread B))]) ∧ x.s = rSt (rread B) ∧ KRd H w.heap.size w x ∧ KBt H w.heap.size w x:=by
 rcases hx : rread B with ⟨er,pl⟩ | ⟨s,q⟩
 ·rw [hx] at h
  exact ⟨ke0,h,rfl,ke0_rd H _ w,ke0_bt H _ w⟩
 ·rw [hx] at h
  obtain ⟨v,rfl,hv⟩:=h
  obtain ⟨x,rfl,h2,h3,h4⟩:=hv.ke (read_dec hB hx).1 hH
  exact ⟨x,rfl,h2,h3,h4⟩
theorem RdD.ke {H : Nat} {B : List Int} (hB : Byt B) {e : Ending} {w : World} (h : RdD H (rread B) e w) : ∃ x : KE,e = .returned (.tuple #[x.val,.int .i64 (rPl (rread B)),.int .i64 (rEr (rread B))]) ∧ x.s = rSt (rread B) ∧ KRd H w.heap.size w x:=by
 rcases hx : rread B with ⟨er,pl⟩ | ⟨s,q⟩
 ·rw [hx] at h
  exact ⟨ke0,h,rfl,ke0_rd H _ w⟩
 ·rw [hx] at h
  obtain ⟨v,rfl,hv⟩:=h
  obtain ⟨x,rfl,h2,h3⟩:=hv.ke (read_dec hB hx).1
  exact ⟨x,rfl,h2,h3⟩
theorem rrread_long (ao : Option Addr) (n cap : Nat) (hn : 16777216 < n) (u : World) : Calls Try.prog 16 #[.slice ao n cap] u fun e w' => Kept u w' ∧ e = .returned (.tuple #[zst,.int .i64 0,.int .i64 2]):=by
 obtain ⟨W1,hW1⟩ : ∃ W1,u.alloc (.cells #[.int .i64 0,.int .i64 0,.int .i64 0,.slice none 0 0,.slice none 0 0,.int .i64 0,.int .i64 0] 35) = W1:=⟨_,rfl⟩
 have k0 : Kept u W1:=by rw [← hW1]; exact (Kept.refl u).alloc _ _
 obtain ⟨M,hM⟩ : ∃ M,u.heap.size = M:=⟨_,rfl⟩
 have bz : Bk W1 M zsl:=by rw [← hW1,← hM]; exact Bk.new u zsl 35
 have d0 : decide (16777216 < (n : Int)) = true:=decide_eq_true (by omega)
 have d00 : decide (16777216 < n) = true:=decide_eq_true hn
 obtain ⟨hz7,ksf⟩:=sets7 bz rfl (.int .i64 0) (.int .i64 0) (.int .i64 0) (.slice none 0 0) (.slice none 0 0) (.int .i64 0) (.int .i64 0)
 obtain ⟨w7,hw7⟩ : ∃ w7,((((((W1.setCell ⟨M,0,none⟩ (.int .i64 0)).setCell ⟨M,1,none⟩ (.int .i64 0)).setCell ⟨M,2,none⟩ (.int .i64 0)).setCell ⟨M,3,none⟩ (.slice none 0 0)).setCell ⟨M,4,none⟩ (.slice none 0 0)).setCell ⟨M,5,none⟩ (.int .i64 0)).setCell ⟨M,6,none⟩ (.int .i64 0) = w7:=⟨_,rfl⟩
 rw [hw7] at hz7 ksf
 obtain ⟨m0,m1,m2,m3,m4,m5,m6,mf⟩ : _ ∧ _ ∧ _ ∧ _ ∧ _ ∧ _ ∧ _ ∧ _:=⟨bz.c 0 _ rfl,bz.c 1 _ rfl,bz.c 2 _ rfl,bz.c 3 _ rfl,bz.c 4 _ rfl,bz.c 5 _ rfl,bz.c 6 _ rfl,bz.fz⟩
 have HZ7:=hid hz7
 have KSF:=hid ksf
 have HW7:=hid hw7
 have HK0:=hid k0
 have HM:=hid hM
 clear hz7 ksf hw7 bz k0 hn
 go_enter Try.func16,Try.ntmps16
 go_wp2_with fail
 (try rw [hW1])
 (try rw [HW7.out])
 clear m0 m1 m2 m3 m4 m5 m6 mf
 obtain ⟨m0,m1,m2,m3,m4,m5,m6⟩ : _ ∧ _ ∧ _ ∧ _ ∧ _ ∧ _ ∧ _:=⟨HZ7.out.c 0 _ rfl,HZ7.out.c 1 _ rfl,HZ7.out.c 2 _ rfl,HZ7.out.c 3 _ rfl,HZ7.out.c 4 _ rfl,HZ7.out.c 5 _ rfl,HZ7.out.c 6 _ rfl⟩
 refine bodyPost_ret (v:=.tuple #[zst,.int .i64 0,.int .i64 2]) (by simp [results,Try.results16,go_sem,m0,m1,m2,m3,m4,m5,m6]) rfl ?_
 exact ⟨kept_of_kx HK0.out KSF.out (fun b hb => by have:=HM.out; omega),rfl⟩
theorem rrread (ao : Option Addr) (cap : Nat) (B : List Int) (hB : Byt B) (hlc : B.length ≤ cap) (u : World) (hS : B ≠ [] → ∃ b off,ao = some ⟨b,off,none⟩ ∧ b < u.heap.size ∧ BR u b off B) :
  Calls Try.prog 16 #[.slice ao B.length cap] u fun e w' => Kept u w' ∧ RdD u.heap.size (rread B) e w':=by
 unfold rread
 by_cases h : B.length ≤ 16777216
 ·rw [if_pos h]
  exact rrread_any ao cap B hB h hlc u hS
 ·rw [if_neg h]
  exact rrread_long ao B.length cap (by omega) u
end Go.Proofs.Ytocjfdiimapojaa
