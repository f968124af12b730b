/- All that is kept over several asks is apart. -/
import Derived.Test.YtocjfdiimapojaaLK
namespace Go.Proofs.Ytocjfdiimapojaa
open Go.ChangeShapes Go.WideShapes Go.ChangeAt Go.RowKit
set_option maxHeartbeats 16000000
set_option maxRecDepth 100000
set_option linter.unusedVariables false
set_option linter.unusedSimpArgs false
theorem pairwise_mem {α : Type} {R : α → α → Prop} : ∀ {l : List α},l.Pairwise R → ∀ a ∈ l,∀ b ∈ l,a = b ∨ R a b ∨ R b a
 | [],_,a,ha,_,_ => by cases ha
 | x :: l,h,a,ha,b,hb => by
  rw [List.pairwise_cons] at h
  rcases List.mem_cons.1 ha with e | ha2
  ·rcases List.mem_cons.1 hb with e2 | hb2
   ·exact .inl (e.trans e2.symm)
   ·exact .inr (.inl (by rw [e]; exact h.1 b hb2))
  ·rcases List.mem_cons.1 hb with e2 | hb2
   ·exact .inr (.inr (by rw [e2]; exact h.1 a ha2))
   ·exact pairwise_mem h.2 a ha2 b hb2
theorem KRd.vlen {H E : Nat} {w : World} {x : KE} (hx : KRd H E w x) : x.V.length = x.ms.length * 4:=by
 have h1:=hx.ok
 have h2:=h1.p.len
 have h3 : ∀ (Q : List (List Mat)) (VQ : List (List Value)),VQ.length = Q.length → (∀ (j : Nat) (l : List Mat) (V : List Value),Q[j]? = some l → VQ[j]? = some V → V.length = l.length * 4) → VQ.flatten.length = Q.flatten.length * 4:=by
  intro Q
  induction Q with
  | nil =>
   intro VQ h _
   have : VQ = []:=List.length_eq_zero_iff.1 h
   subst this
   rfl
  | cons l Q ih =>
   intro VQ h hh
   match VQ,h with
   | V :: VQ,h =>
    have a1:=hh 0 l V rfl rfl
    have a2:=ih VQ (by simpa using h) (fun j l V h1 h2 => hh (j + 1) l V (by simpa using h1) (by simpa using h2))
    rw [List.flatten_cons,List.flatten_cons,List.length_append,List.length_append,a1,a2]
    omega
 have h4:=h3 x.s.Q x.VQ h1.ql (fun j l V hl hV => by
  obtain ⟨lv,-,h5⟩:=h1.l j l V hl hV
  exact h5.len)
 show (x.VP ++ x.VQ.flatten).length = (x.s.P ++ x.s.Q.flatten).length * 4
 rw [List.length_append,List.length_append,h2,h4]
 omega
theorem KRd.mlen {H E : Nat} {w : World} {x : KE} (hx : KRd H E w x) : x.ms.length ≤ 320:=by
 have h1:=hx.ok.n
 have h2:=flat_take_le x.s.Q h1.2.2 x.s.Q.length
 rw [List.take_length] at h2
 have h3 : x.ms.length = x.s.P.length + x.s.Q.flatten.length:=List.length_append
 omega
abbrev bsE (es : List ES) : List Value:=es.flatMap fun e => bslM e.x.V
theorem bs_mem {w : World} : ∀ {es : List ES},(∀ e ∈ es,e.ok w) → ∀ v ∈ bsE es,∃ e ∈ es,∃ g n L,v = .slice (some ⟨g,0,none⟩) n n ∧ L.length = n ∧ n ≤ 4096 ∧ Own w g n L ∧ e.H ≤ g ∧ g < e.E:=fun {es} h v hv => by
 obtain ⟨e,he,h1⟩:=List.mem_flatMap.1 hv
 obtain ⟨i,hi,rfl⟩:=List.getElem_of_mem h1
 obtain ⟨g,n,L,q⟩:=(h e he).b.hb i _ (List.getElem?_eq_getElem hi)
 exact ⟨e,he,g,n,L,q⟩
theorem bs_len {w : World} : ∀ {es : List ES},(∀ e ∈ es,e.ok w) → (bsE es).length ≤ es.length * 320
 | [],_ => Nat.zero_le _
 | e :: es,h => by
  have h1:=bs_len (es:=es) fun e he => h e (List.mem_cons_of_mem _ he)
  have h2:=h e (List.mem_cons_self ..)
  have h3:=bslM_len _ _ h2.x.vlen
  have h4:=h2.x.mlen
  show ((bslM e.x.V) ++ bsE es).length ≤ (es.length + 1) * 320
  rw [List.length_append]
  omega
theorem bs_ab {w : World} : ∀ {es : List ES},(∀ e ∈ es,e.ok w) → (es.Pairwise fun e e' => e.F ≤ e'.H) → ∀ (i j : Nat) (u v : Value),(bsE es)[i]? = some u → (bsE es)[j]? = some v → i ≠ j → ∀ b,bkv u b → ¬ bkv v b
 | [],_,_,i,j,u,v,hu,_,_ => by simp [bsE] at hu
 | e :: es,h,hp,i,j,u,v,hu,hv,hij => fun b hb hb2 => by
  rw [List.pairwise_cons] at hp
  have h0:=h e (List.mem_cons_self ..)
  have ht : ∀ e ∈ es,e.ok w:=fun e he => h e (List.mem_cons_of_mem _ he)
  have hcut : ∀ (k : Nat) (v : Value),((bslM e.x.V) ++ bsE es)[k]? = some v → (k < (bslM e.x.V).length ∧ (bslM e.x.V)[k]? = some v) ∨ (∃ k2,k = (bslM e.x.V).length + k2 ∧ (bsE es)[k2]? = some v):=fun k v hk => by
   by_cases hkl : k < (bslM e.x.V).length
   ·exact .inl ⟨hkl,by rw [List.getElem?_append_left hkl] at hk; exact hk⟩
   ·exact .inr ⟨k - (bslM e.x.V).length,by omega,by rw [List.getElem?_append_right (by omega)] at hk; exact hk⟩
  have hA : ∀ (k : Nat) (v : Value),(bslM e.x.V)[k]? = some v → bkv v b → e.H ≤ b ∧ b < e.E:=fun k v hk hb => by
   obtain ⟨g,n,L,e1,-,-,-,h1,h2⟩:=h0.b.hb k v hk
   obtain ⟨n2,c2,e2⟩:=hb
   have e3:=e1.symm.trans e2
   cases e3
   exact ⟨h1,h2⟩
  have hT : ∀ (k : Nat) (v : Value),(bsE es)[k]? = some v → bkv v b → e.F ≤ b:=fun k v hk hb => by
   obtain ⟨e',he',g,n,L,e1,-,-,-,h1,h2⟩:=bs_mem ht v (List.mem_of_getElem? hk)
   obtain ⟨n2,c2,e2⟩:=hb
   have e3:=e1.symm.trans e2
   cases e3
   have:=hp.1 e' he'
   omega
  have ho:=h0.o
  rcases hcut i u hu with ⟨-,h1⟩ | ⟨i2,h1,h2⟩ <;> rcases hcut j v hv with ⟨-,h3⟩ | ⟨j2,h3,h4⟩
  ·exact h0.b.ab i j u v h1 h3 hij b hb hb2
  ·have:=hA i u h1 hb; have:=hT j2 v h4 hb2; omega
  ·have:=hA j v h3 hb2; have:=hT i2 u h2 hb; omega
  ·exact bs_ab ht hp.2 i2 j2 u v h2 h4 (by omega) b hb hb2
theorem KP.env {kb Hm : Nat} {rv wv kv sv : Value} {bvs cvs : List Value} {es : List ES} {w : World} (h : KP kb Hm rv wv kv sv bvs cvs es w) (S1 C1 S2 C2 : Nat) : Env.st ⟨kb,S1,C1,S2,C2,rv,wv,es.map ES.x,es.map ES.y,.slice none 0 0,bsE es,Hm⟩:=by
 have hsl:=h.sl
 have hlen:=bs_len h.ok
 have htwo : ∀ e ∈ es,∀ e' ∈ es,e = e' ∨ e.F ≤ e'.H ∨ e'.F ≤ e.H:=fun e he e' he' => pairwise_mem h.ch e he e' he'
 have hz : ∀ z ∈ es.map ES.x ++ es.map ES.y,∃ e ∈ es,z = e.x ∨ z = e.y:=fun z hz => by
  rcases List.mem_append.1 hz with h1 | h1
  ·obtain ⟨e,he,rfl⟩:=List.mem_map.1 h1
   exact ⟨e,he,.inl rfl⟩
  ·obtain ⟨e,he,rfl⟩:=List.mem_map.1 h1
   exact ⟨e,he,.inr rfl⟩
 refine ⟨⟨by show (es.map ES.x).length ≤ 1000; rw [List.length_map]; omega,by show (es.map ES.y).length ≤ 1000; rw [List.length_map]; omega,by show (bsE es).length ≤ 1000000; omega⟩,fun x hx z hzz u hu v hv => ?_,fun x hx z hzz => ?_,bs_ab h.ok h.ch,h.kH.1,fun v hv b hb => ?_,fun x hx u hu b hb => ?_,fun x hx b hb => ?_⟩
 ·obtain ⟨e,he,rfl⟩:=List.mem_map.1 hx
  obtain ⟨e',he',h1⟩:=hz z hzz
  have o1:=h.ok e he
  have o2:=h.ok e' he'
  have p1:=o1.o
  have p2:=o2.o
  rcases htwo e he e' he' with rfl | h2 | h2
  ·rcases h1 with rfl | rfl
   ·exact o1.b.al u hu v hv
   ·exact .inr fun b hb hb2 => by have:=o1.x.hl u hu b hb; have:=o1.y.hl v hv b hb2; omega
  ·refine .inr fun b hb hb2 => ?_
   have q1:=o1.x.hl u hu b hb
   rcases h1 with rfl | rfl
   ·have:=o2.x.hl v hv b hb2; omega
   ·have:=o2.y.hl v hv b hb2; omega
  ·refine .inr fun b hb hb2 => ?_
   have q1:=o1.x.hl u hu b hb
   rcases h1 with rfl | rfl
   ·have:=o2.x.hl v hv b hb2; omega
   ·have:=o2.y.hl v hv b hb2; omega
 ·obtain ⟨e,he,rfl⟩:=List.mem_map.1 hx
  obtain ⟨e',he',h1⟩:=hz z hzz
  have o1:=h.ok e he
  have o2:=h.ok e' he'
  have p1:=o1.o
  have p2:=o2.o
  rcases htwo e he e' he' with rfl | h2 | h2
  ·rcases h1 with rfl | rfl
   ·exact .inl rfl
   ·exact .inr fun b hb hb2 => by have:=o1.x.hq b hb; have:=o1.y.hq b hb2; omega
  ·refine .inr fun b hb hb2 => ?_
   have q1:=o1.x.hq b hb
   rcases h1 with rfl | rfl
   ·have:=o2.x.hq b hb2; omega
   ·have:=o2.y.hq b hb2; omega
  ·refine .inr fun b hb hb2 => ?_
   have q1:=o1.x.hq b hb
   rcases h1 with rfl | rfl
   ·have:=o2.x.hq b hb2; omega
   ·have:=o2.y.hq b hb2; omega
 ·obtain ⟨e,he,g,n,L,e1,-,-,-,h1,h2⟩:=bs_mem h.ok v hv
  obtain ⟨n2,c2,e2⟩:=hb
  have e3:=e1.symm.trans e2
  cases e3
  have:=h.eH e he
  show Hm ≤ b
  omega
 ·obtain ⟨e,he,rfl⟩:=List.mem_map.1 hx
  have:=(h.ok e he).x.hl u hu b hb
  have:=h.eH e he
  show Hm ≤ b
  omega
 ·obtain ⟨e,he,rfl⟩:=List.mem_map.1 hx
  have:=(h.ok e he).x.hq b hb
  have:=h.eH e he
  show Hm ≤ b
  omega
theorem KP.shape {kb Hm : Nat} {rv wv kv sv : Value} {bvs cvs : List Value} {es : List ES} {w : World} (h : KP kb Hm rv wv kv sv bvs cvs es w) : ∀ (i : Nat) (x y : KE),(es.map ES.x)[i]? = some x → (es.map ES.y)[i]? = some y → x.ms.length = y.ms.length ∧ ∀ j c,j < x.ms.length → c < 3 → ∃ z : Int,x.V[j * 4 + c]? = some (.int .i64 z) ∧ y.V[j * 4 + c]? = some (.int .i64 z):=fun i x y hx hy => by
 rw [List.getElem?_map] at hx hy
 rcases he : es[i]? with _ | e
 ·rw [he] at hx; cases hx
 ·rw [he] at hx hy
  cases hx
  cases hy
  have o:=h.ok e (List.mem_of_getElem? he)
  have hmm : e.y.ms = e.x.ms:=by unfold KE.ms; rw [o.s]
  refine ⟨by rw [hmm],fun j c hj hc => ?_⟩
  have hm:=List.getElem?_eq_getElem hj
  obtain ⟨q1,q2,q3⟩:=o.x.ce j _ hm
  obtain ⟨p1,p2,p3⟩:=o.y.ce j _ (by rw [hmm]; exact hm)
  match c,hc with
  | 0,_ => exact ⟨_,q1,p1⟩
  | 1,_ => exact ⟨_,q2,p2⟩
  | 2,_ => exact ⟨_,q3,p3⟩
theorem apart_all (kb Hm : Nat) (rv wv kv sv : Value) (bvs cvs : List Value) (es : List ES) (u : World) (h : KP kb Hm rv wv kv sv bvs cvs es u) (hne : 0 < es.length) (hnb : 0 < bvs.length) :
  Calls Try.prog 7 #[.pointer (some ⟨kb,0,none⟩)] u fun e w' => e = .returned (.bool true) ∧ KX (fun b => Hm ≤ b) u w':=by
 obtain ⟨S1,C1,hkv,ho1⟩ : ∃ S1 C1,kv = .slice (some ⟨S1,0,none⟩) es.length C1 ∧ OwnS u S1 C1 7 35 ((es.map ES.x).flatMap row7):=by
  rcases h.s1 with ⟨h0,-,-⟩ | ⟨g,C,e,-,-,-,ho⟩
  ·omega
  ·exact ⟨g,C,e,ho⟩
 obtain ⟨S2,C2,hsv,ho2⟩ : ∃ S1 C1,sv = .slice (some ⟨S1,0,none⟩) es.length C1 ∧ OwnS u S1 C1 7 35 ((es.map ES.y).flatMap row7):=by
  rcases h.s2 with ⟨h0,-,-⟩ | ⟨g,C,e,-,-,-,ho⟩
  ·omega
  ·exact ⟨g,C,e,ho⟩
 obtain ⟨R1,C3,hrv,hr1⟩ : ∃ S1 C1,rv = .slice (some ⟨S1,0,none⟩) bvs.length C1 ∧ OwnS u S1 C1 1 22 bvs:=by
  rcases h.r with ⟨h0,-,-⟩ | ⟨g,C,e,-,-,-,ho⟩
  ·omega
  ·exact ⟨g,C,e,ho⟩
 obtain ⟨R2,C4,hwv,hr2⟩ : ∃ S1 C1,wv = .slice (some ⟨S1,0,none⟩) bvs.length C1 ∧ OwnS u S1 C1 1 22 cvs:=by
  rcases h.c with ⟨h0,-,-⟩ | ⟨g,C,e,-,-,-,ho⟩
  ·have:=h.rl.1; omega
  ·rw [h.rl.1] at e
   exact ⟨g,C,e,ho⟩
 have hPR : ∀ w,Kept u w → Rws kb rv wv kv sv bvs (fun _ _ => True) w:=fun w k => ⟨h.k.kept k,h.r.kept k,fun i v hv => by
  obtain ⟨B,-,h2,h3,-⟩:=h.rb i v _ hv (List.getElem?_eq_getElem (by rw [h.rl.1]; exact (List.getElem?_eq_some_iff.1 hv).1))
  exact ⟨B,h3.kept k,trivial,h2⟩⟩
 have HBy:=hid (fun w (k : Kept u w) => bytes_many kb rv wv kv sv bvs (by have:=h.rl.2; omega) h.ra (fun v hv hb => by have:=h.rH v hv kb hb; have:=h.kH.1; omega) w (hPR w k))
 have HBH:=hid (show ∀ b,(∃ v ∈ bvs,bkv v b) → Hm ≤ b from fun b ⟨v,hv,hb⟩ => h.rH v hv b hb)
 have hall : ∀ z ∈ es.map ES.x ++ es.map ES.y,z.ok u:=fun z hz => by
  rcases List.mem_append.1 hz with h1 | h1
  ·obtain ⟨e,he,rfl⟩:=List.mem_map.1 h1
   exact (h.ok e he).x.ok
  ·obtain ⟨e,he,rfl⟩:=List.mem_map.1 h1
   exact (h.ok e he).y.ok
 have HLs : Hid (∀ w w',Kept u w → KX (fun b => ∃ v ∈ bvs,bkv v b) w w' → Calls Try.prog 19 #[.pointer (some ⟨kb,0,none⟩)] w' fun e w'' => e = .returned (.bool true) ∧ KX (fun b => Hm ≤ b) w' w''):=fun w w' k kx => by
  have hty : ∀ b cur (e : TypeId),(∃ v ∈ bvs,bkv v b) → w.heap[b]? = some (.cells cur e (0,0)) → e = 5:=fun b cur e ⟨v,hv,hb⟩ he => by
   obtain ⟨i,hi,rfl⟩:=List.getElem_of_mem hv
   obtain ⟨L,h1,-⟩:=(hPR w k).b i _ (List.getElem?_eq_getElem hi)
   obtain ⟨c2,h2⟩:=h1.bk hb
   exact ty_ne he h2
  have hkk:=(h.k.kept k).kx kx (fun ⟨v,hv,hb⟩ => by have:=h.rH v hv kb hb; have:=h.kH.1; omega)
  rw [hkv,hsv] at hkk
  have ho1':=(ho1.kept k).on (kx.block S1 (ho1.kept k).lt fun hx => by obtain ⟨cur,e,-⟩:=ho1.kept k; exact absurd (hty _ _ _ hx e) (by decide))
  have ho2':=(ho2.kept k).on (kx.block S2 (ho2.kept k).lt fun hx => by obtain ⟨cur,e,-⟩:=ho2.kept k; exact absurd (hty _ _ _ hx e) (by decide))
  refine lists_any kb S1 C1 S2 C2 rv wv (es.map ES.x) (es.map ES.y) (bsE es) Hm (h.env S1 C1 S2 C2) (by unfold bsE; rw [List.flatMap_map]) w' (by rw [List.length_map,List.length_map]; exact hkk) ho1' ho2' (fun z hz => ((hall z hz).kept k).onx kx (fun b cur hb he => absurd (hty _ _ _ hb he) (by decide)) (fun b cur hb he => absurd (hty _ _ _ hb he) (by decide))) (fun i v hv => ?_) (Nat.le_trans h.kH.2 (Nat.le_trans k.below.size kx.size)) (fun w2 q1 q2 q3 q4 => shapes_any kb S1 C1 S2 C2 rv wv (es.map ES.x) (es.map ES.y) (by rw [List.length_map,List.length_map]) (by rw [List.length_map]; have:=h.sl; omega) h.shape w2 q1 q2 q3 q4)
  obtain ⟨e,he,g,n,L,e1,h1,h2,h3,-⟩:=bs_mem h.ok v (List.mem_of_getElem? hv)
  have h4:=(ownS1.2 h3).kept k
  exact ⟨g,n,L,e1,h1,h2,ownS1.1 (h4.on (kx.block g h4.lt fun hx => by obtain ⟨cur,e,-⟩:=h4; exact absurd (hty _ _ _ hx e) (by decide)))⟩
 have HRow : Hid (∀ i,i < bvs.length → ∃ ao1 bl cb1 ao2 cb2 S,∀ w,Kept u w → w.cell? ⟨kb,0,none⟩ = some (.slice (some ⟨R1,0,none⟩) bvs.length C3) ∧ w.cell? ⟨kb,1,none⟩ = some (.slice (some ⟨R2,0,none⟩) bvs.length C4) ∧ w.cell? ⟨R1,i,none⟩ = some (.slice ao1 bl cb1) ∧ w.cell? ⟨R2,i,none⟩ = some (.slice ao2 bl cb2) ∧ (convert 22 9 (.slice ao1 bl cb1)).run Try.prog w = .ok (.string S) w ∧ (convert 22 9 (.slice ao2 bl cb2)).run Try.prog w = .ok (.string S) w):=fun i hi => by
  have hbv:=List.getElem?_eq_getElem hi
  have hcv:=List.getElem?_eq_getElem (show i < cvs.length by rw [h.rl.1]; exact hi)
  obtain ⟨B,h1,-,h3,h4⟩:=h.rb i _ _ hbv hcv
  obtain ⟨ao1,cb1,e1⟩:=h3.bn.form
  obtain ⟨ao2,cb2,e2⟩:=h4.form
  refine ⟨ao1,B.length,cb1,ao2,cb2,SB B,fun w k => ⟨by rw [← hrv]; exact (h.k.kept k).c 0 _ rfl,by rw [← hwv]; exact (h.k.kept k).c 1 _ rfl,by rw [← e1]; exact (hr1.kept k).cell i _ hbv,by rw [← e2]; exact (hr2.kept k).cell i _ hcv,by rw [← e1]; exact bn_str (h3.kept k).bn h1,by rw [← e2]; exact bn_str (h4.kept k) h1⟩⟩
 have HC0 : Hid (∀ w,Kept u w → w.cell? ⟨kb,0,none⟩ = some (.slice (some ⟨R1,0,none⟩) bvs.length C3) ∧ w.cell? ⟨kb,2,none⟩ = some (.slice (some ⟨S1,0,none⟩) es.length C1)):=fun w k => ⟨by rw [← hrv]; exact (h.k.kept k).c 0 _ rfl,by rw [← hkv]; exact (h.k.kept k).c 2 _ rfl⟩
 have HSt : Hid (∀ i,i < es.length → ∃ x y : KE,(∀ w,Kept u w → w.cell? ⟨kb,2,none⟩ = some (.slice (some ⟨S1,0,none⟩) es.length C1) ∧ w.cell? ⟨kb,3,none⟩ = some (.slice (some ⟨S2,0,none⟩) es.length C2) ∧ w.cell? ⟨S1,i * 7,none⟩ = some (.int .i64 x.s.a) ∧ w.cell? ⟨S1,i * 7 + 1,none⟩ = some (.int .i64 x.s.b) ∧ w.cell? ⟨S1,i * 7 + 2,none⟩ = some (.int .i64 x.s.d) ∧ w.cell? ⟨S1,i * 7 + 3,none⟩ = some (x.pv) ∧ w.cell? ⟨S1,i * 7 + 4,none⟩ = some (x.qv) ∧ w.cell? ⟨S1,i * 7 + 5,none⟩ = some (.int .i64 x.s.lo) ∧ w.cell? ⟨S1,i * 7 + 6,none⟩ = some (.int .i64 x.s.ra) ∧ w.cell? ⟨S2,i * 7,none⟩ = some (.int .i64 y.s.a) ∧ w.cell? ⟨S2,i * 7 + 1,none⟩ = some (.int .i64 y.s.b) ∧ w.cell? ⟨S2,i * 7 + 2,none⟩ = some (.int .i64 y.s.d) ∧ w.cell? ⟨S2,i * 7 + 3,none⟩ = some (y.pv) ∧ w.cell? ⟨S2,i * 7 + 4,none⟩ = some (y.qv) ∧ w.cell? ⟨S2,i * 7 + 5,none⟩ = some (.int .i64 y.s.lo) ∧ w.cell? ⟨S2,i * 7 + 6,none⟩ = some (.int .i64 y.s.ra)) ∧ ∀ w,Kept u w → Calls Try.prog 13 #[x.val,y.val] w fun e w' => e = .returned (.bool true) ∧ Kept w w'):=fun i hi => by
  have he:=List.getElem?_eq_getElem hi
  have o:=h.ok _ (List.getElem_mem hi)
  have hxi : (es.map ES.x)[i]? = some (es[i]).x:=by rw [List.getElem?_map,he]; rfl
  have hyi : (es.map ES.y)[i]? = some (es[i]).y:=by rw [List.getElem?_map,he]; rfl
  refine ⟨(es[i]).x,(es[i]).y,fun w k => ?_,fun w k => ?_⟩
  ·have q2:=ho1.kept k
   have q3:=ho2.kept k
   exact ⟨by rw [← hkv]; exact (h.k.kept k).c 2 _ rfl,by rw [← hsv]; exact (h.k.kept k).c 3 _ rfl,q2.cell (i * 7 + 0) _ (rows7_get _ i _ 0 hxi (by decide)),q2.cell (i * 7 + 1) _ (rows7_get _ i _ 1 hxi (by decide)),q2.cell (i * 7 + 2) _ (rows7_get _ i _ 2 hxi (by decide)),q2.cell (i * 7 + 3) _ (rows7_get _ i _ 3 hxi (by decide)),q2.cell (i * 7 + 4) _ (rows7_get _ i _ 4 hxi (by decide)),q2.cell (i * 7 + 5) _ (rows7_get _ i _ 5 hxi (by decide)),q2.cell (i * 7 + 6) _ (rows7_get _ i _ 6 hxi (by decide)),q3.cell (i * 7 + 0) _ (rows7_get _ i _ 0 hyi (by decide)),q3.cell (i * 7 + 1) _ (rows7_get _ i _ 1 hyi (by decide)),q3.cell (i * 7 + 2) _ (rows7_get _ i _ 2 hyi (by decide)),q3.cell (i * 7 + 3) _ (rows7_get _ i _ 3 hyi (by decide)),q3.cell (i * 7 + 4) _ (rows7_get _ i _ 4 hyi (by decide)),q3.cell (i * 7 + 5) _ (rows7_get _ i _ 5 hyi (by decide)),q3.cell (i * 7 + 6) _ (rows7_get _ i _ 6 hyi (by decide))⟩
  ·have h1:=o.x.ok.n
   exact same_true (es[i]).x.s (es[i]).x.val (es[i]).y.val (by omega) (by omega) (fun l hl => by have:=h1.2.2 l hl; omega) w (o.tx w (fun _ => False) (k.kx _) (fun _ _ _ h => h)) (by rw [o.s]; exact o.ty w (fun _ => False) (k.kx _) (fun _ _ _ h => h))
 have hm9:=h.rl.2
 have hn9:=h.sl
 obtain ⟨m,hm⟩ : ∃ m,bvs.length = m:=⟨_,rfl⟩
 obtain ⟨n,hn⟩ : ∃ n,es.length = n:=⟨_,rfl⟩
 rw [hm] at HRow HC0 hm9
 rw [hn] at HC0 HSt hn9
 have HNN:=hid (show m ≤ 90 ∧ n ≤ 800 from ⟨hm9,hn9⟩)
 obtain ⟨c0,-⟩:=HC0.out u (Kept.refl u)
 have heq : ∀ (S : ByteArray) (u : World),(binOp .neq 9 (.string S) (.string S)).run Try.prog u = .ok (.bool false) u:=fun S u => by
  rw [binOp_string_neq]
  simp [Sem.run_pure]
 clear h ho1 ho2 hr1 hr2 hPR hall hm hn hm9 hn9 hrv hwv hkv hsv hne hnb
 go_enter Try.func7,Try.ntmps7
 go_wp2_with fail
 go_loopw [3] (fun iv wr => ∃ i : Nat,i ≤ m ∧ iv = .int .i64 (i : Int) ∧ Kept u wr) (fun iv _ => m - (intOf iv).toNat)
 case atStart => exact ⟨0,Nat.zero_le _,rfl,Kept.refl _⟩
 case round =>
  clear c0
  obtain ⟨i,hi,rfl,kr⟩:=hrel
  obtain ⟨c0,-⟩:=HC0.out _ kr
  have KR:=hid kr
  by_cases him : i < m
  ·obtain ⟨ao1,bl,cb1,ao2,cb2,SS,hD⟩:=HRow.out i him
   have HD:=hid hD
   have d1 : decide ((i : Int) < (m : Int)) = true:=decide_eq_true (by omega)
   have d2 : decide (i < m) = true:=decide_eq_true him
   have hbd : (0 : Int) ≤ (i : Int) ∧ (i : Int) < (m : Int):=by omega
   have z9 : IntKind.i64.wrap ((i : Int) + 1) = (i : Int) + 1:=by have:=HNN.out; rw [wrap_i64]; omega
   have HII:=hid him
   clear hD him hi
   go_wp2_with fail
   clear c0
   refine wp_region_late [] (fun u => u.cell? ⟨kb,0,none⟩ = some (.slice (some ⟨R1,0,none⟩) m C3) ∧ u.cell? ⟨kb,1,none⟩ = some (.slice (some ⟨R2,0,none⟩) m C4) ∧ u.cell? ⟨R1,i,none⟩ = some (.slice ao1 bl cb1) ∧ u.cell? ⟨R2,i,none⟩ = some (.slice ao2 bl cb2) ∧ (convert 22 9 (.slice ao1 bl cb1)).run Try.prog u = .ok (.string SS) u ∧ (convert 22 9 (.slice ao2 bl cb2)).run Try.prog u = .ok (.string SS) u) (by kernel_rfl) (HD.out _ (kr.trans (Kept.refl wr).drew)) (fun hHeld => ?_)
   refine tkD (i:=0) (v:=?_) rfl hHeld ?_
   (try simp only [Act.put,zA,zB,zC,zD,zE,zF])
   refine tkD (i:=1) (v:=?_) rfl hHeld ?_
   (try simp only [Act.put,zA,zB,zC,zD,zE,zF])
   refine tkD (i:=2) (v:=?_) rfl hHeld ?_
   (try simp only [Act.put,zA,zB,zC,zD,zE,zF])
   refine tkD (i:=3) (v:=?_) rfl hHeld ?_
   (try simp only [Act.put,zA,zB,zC,zD,zE,zF])
   refine tkD (i:=4) (v:=?_) rfl hHeld ?_
   (try simp only [Act.put,zA,zB,zC,zD,zE,zF])
   refine tkD (i:=5) (v:=?_) rfl hHeld ?_
   (try simp only [Act.put,zA,zB,zC,zD,zE,zF])
   refine tkD (i:=6) (v:=?_) rfl hHeld ?_
   (try simp only [Act.put,zA,zB,zC,zD,zE,zF])
   refine tkD (i:=7) (v:=?_) rfl hHeld ?_
   (try simp only [Act.put,zA,zB,zC,zD,zE,zF])
   refine tkD (i:=8) (v:=?_) rfl hHeld ?_
   (try simp only [Act.put,zA,zB,zC,zD,zE,zF])
   refine tkD (i:=9) (v:=?_) rfl hHeld ?_
   (try simp only [Act.put,zA,zB,zC,zD,zE,zF])
   refine tkD (i:=10) (v:=?_) rfl hHeld ?_
   (try simp only [Act.put,zA,zB,zC,zD,zE,zF])
   refine tkD (i:=11) (v:=?_) rfl hHeld ?_
   (try simp only [Act.put,zA,zB,zC,zD,zE,zF])
   refine tkD (i:=12) (v:=?_) rfl hHeld ?_
   (try simp only [Act.put,zA,zB,zC,zD,zE,zF])
   refine tkD (i:=13) (v:=?_) rfl hHeld ?_
   (try simp only [Act.put,zA,zB,zC,zD,zE,zF])
   refine tkD (i:=14) (v:=?_) rfl hHeld ?_
   (try simp only [Act.put,zA,zB,zC,zD,zE,zF])
   refine tkD (i:=15) (v:=?_) rfl hHeld ?_
   (try simp only [Act.put,zA,zB,zC,zD,zE,zF])
   refine tkD (i:=16) (v:=?_) rfl hHeld ?_
   (try simp only [Act.put,zA,zB,zC,zD,zE,zF])
   refine wpAnyD_done (by kernel_rfl) ?_ _
   (try simp only [Act.put,zA,zB,zC,zD,zE,zF])
   have KR5:=hid (KR.out.trans (Kept.refl wr).drew)
   clear hHeld kr
   go_wp2_with fail
   go_roundw
   case rel => exact ⟨i + 1,by have:=HII.out; omega,by go_num,KR5.out⟩
   case measure => have:=HII.out; simp [intOf]; omega
  ·obtain rfl : m = i:=by omega
   have d1 : decide ((m : Int) < (m : Int)) = false:=decide_eq_false (by omega)
   have d2 : decide (m < m) = false:=decide_eq_false (by omega)
   clear him hi kr
   go_wp2_with fail
   go_loopw [4] (fun iv wr => ∃ i : Nat,i ≤ n ∧ iv = .int .i64 (i : Int) ∧ Kept u wr) (fun iv _ => n - (intOf iv).toNat)
   case atStart => exact ⟨0,Nat.zero_le _,rfl,KR.out⟩
   case round =>
    clear KR c0 d1 d2
    obtain ⟨i,hi,rfl,kr⟩:=hrel
    obtain ⟨-,c2⟩:=HC0.out _ kr
    have KR:=hid kr
    by_cases hin : i < n
    ·obtain ⟨x,y,hF,hSi⟩:=HSt.out i hin
     have HF:=hid hF
     have HSi:=hid hSi
     have d1 : decide ((i : Int) < (n : Int)) = true:=decide_eq_true (by omega)
     have d2 : decide (i < n) = true:=decide_eq_true hin
     have hbd : (0 : Int) ≤ (i : Int) ∧ (i : Int) < (n : Int):=by omega
     have z9 : IntKind.i64.wrap ((i : Int) + 1) = (i : Int) + 1:=by have:=HNN.out; rw [wrap_i64]; omega
     have HII:=hid hin
     clear hF hSi hin hi
     go_wp2_with fail
     clear c2
     refine wp_region_late [] (fun u => u.cell? ⟨kb,2,none⟩ = some (.slice (some ⟨S1,0,none⟩) n C1) ∧ u.cell? ⟨kb,3,none⟩ = some (.slice (some ⟨S2,0,none⟩) n C2) ∧ u.cell? ⟨S1,i * 7,none⟩ = some (.int .i64 x.s.a) ∧ u.cell? ⟨S1,i * 7 + 1,none⟩ = some (.int .i64 x.s.b) ∧ u.cell? ⟨S1,i * 7 + 2,none⟩ = some (.int .i64 x.s.d) ∧ u.cell? ⟨S1,i * 7 + 3,none⟩ = some (x.pv) ∧ u.cell? ⟨S1,i * 7 + 4,none⟩ = some (x.qv) ∧ u.cell? ⟨S1,i * 7 + 5,none⟩ = some (.int .i64 x.s.lo) ∧ u.cell? ⟨S1,i * 7 + 6,none⟩ = some (.int .i64 x.s.ra) ∧ u.cell? ⟨S2,i * 7,none⟩ = some (.int .i64 y.s.a) ∧ u.cell? ⟨S2,i * 7 + 1,none⟩ = some (.int .i64 y.s.b) ∧ u.cell? ⟨S2,i * 7 + 2,none⟩ = some (.int .i64 y.s.d) ∧ u.cell? ⟨S2,i * 7 + 3,none⟩ = some (y.pv) ∧ u.cell? ⟨S2,i * 7 + 4,none⟩ = some (y.qv) ∧ u.cell? ⟨S2,i * 7 + 5,none⟩ = some (.int .i64 y.s.lo) ∧ u.cell? ⟨S2,i * 7 + 6,none⟩ = some (.int .i64 y.s.ra)) (by kernel_rfl) (show wr.drew.cell? ⟨kb,2,none⟩ = some (.slice (some ⟨S1,0,none⟩) n C1) ∧ wr.drew.cell? ⟨kb,3,none⟩ = some (.slice (some ⟨S2,0,none⟩) n C2) ∧ wr.drew.cell? ⟨S1,i * 7,none⟩ = some (.int .i64 x.s.a) ∧ wr.drew.cell? ⟨S1,i * 7 + 1,none⟩ = some (.int .i64 x.s.b) ∧ wr.drew.cell? ⟨S1,i * 7 + 2,none⟩ = some (.int .i64 x.s.d) ∧ wr.drew.cell? ⟨S1,i * 7 + 3,none⟩ = some (x.pv) ∧ wr.drew.cell? ⟨S1,i * 7 + 4,none⟩ = some (x.qv) ∧ wr.drew.cell? ⟨S1,i * 7 + 5,none⟩ = some (.int .i64 x.s.lo) ∧ wr.drew.cell? ⟨S1,i * 7 + 6,none⟩ = some (.int .i64 x.s.ra) ∧ wr.drew.cell? ⟨S2,i * 7,none⟩ = some (.int .i64 y.s.a) ∧ wr.drew.cell? ⟨S2,i * 7 + 1,none⟩ = some (.int .i64 y.s.b) ∧ wr.drew.cell? ⟨S2,i * 7 + 2,none⟩ = some (.int .i64 y.s.d) ∧ wr.drew.cell? ⟨S2,i * 7 + 3,none⟩ = some (y.pv) ∧ wr.drew.cell? ⟨S2,i * 7 + 4,none⟩ = some (y.qv) ∧ wr.drew.cell? ⟨S2,i * 7 + 5,none⟩ = some (.int .i64 y.s.lo) ∧ wr.drew.cell? ⟨S2,i * 7 + 6,none⟩ = some (.int .i64 y.s.ra) from HF.out _ (kr.trans (Kept.refl wr).drew)) (fun hHeld => ?_)
     refine tkD (i:=0) (v:=?_) rfl hHeld ?_
     (try simp only [Act.put,zA,zB,zC,zD,zE,zF])
     refine tkD (i:=1) (v:=?_) rfl hHeld ?_
     (try simp only [Act.put,zA,zB,zC,zD,zE,zF])
     refine tkD (i:=2) (v:=?_) rfl hHeld ?_
     (try simp only [Act.put,zA,zB,zC,zD,zE,zF])
     refine tkD (i:=3) (v:=?_) rfl hHeld ?_
     (try simp only [Act.put,zA,zB,zC,zD,zE,zF])
     refine tkD (i:=4) (v:=?_) rfl hHeld ?_
     (try simp only [Act.put,zA,zB,zC,zD,zE,zF])
     refine tkD (i:=5) (v:=?_) rfl hHeld ?_
     (try simp only [Act.put,zA,zB,zC,zD,zE,zF])
     refine tkD (i:=6) (v:=?_) rfl hHeld ?_
     (try simp only [Act.put,zA,zB,zC,zD,zE,zF])
     refine tkD (i:=7) (v:=?_) rfl hHeld ?_
     (try simp only [Act.put,zA,zB,zC,zD,zE,zF])
     refine tkD (i:=8) (v:=?_) rfl hHeld ?_
     (try simp only [Act.put,zA,zB,zC,zD,zE,zF])
     refine tkD (i:=9) (v:=?_) rfl hHeld ?_
     (try simp only [Act.put,zA,zB,zC,zD,zE,zF])
     refine tkD (i:=10) (v:=?_) rfl hHeld ?_
     (try simp only [Act.put,zA,zB,zC,zD,zE,zF])
     refine tkD (i:=11) (v:=?_) rfl hHeld ?_
     (try simp only [Act.put,zA,zB,zC,zD,zE,zF])
     refine tkD (i:=12) (v:=?_) rfl hHeld ?_
     (try simp only [Act.put,zA,zB,zC,zD,zE,zF])
     refine tkD (i:=13) (v:=?_) rfl hHeld ?_
     (try simp only [Act.put,zA,zB,zC,zD,zE,zF])
     refine wpAnyD_step (i:=14) (by kernel_rfl) rfl (fun K hK9 => ?_)
     go_simp
     go_wp2_with fail
     refine (HSi.out _ (kr.trans (Kept.refl wr).drew)).mono ?_
     rintro e u5 ⟨rfl,k5⟩
     refine hK9.out _ _ (HF.out _ ((kr.trans (Kept.refl wr).drew).trans k5)) (fun hHeld2 => ?_)
     clear hK9 K
     (try simp only [Act.put,zA,zB,zC,zD,zE,zF])
     refine tkD (i:=15) (v:=?_) rfl hHeld2 ?_
     (try simp only [Act.put,zA,zB,zC,zD,zE,zF])
     refine wpAnyD_done (by kernel_rfl) ?_ _
     (try simp only [Act.put,zA,zB,zC,zD,zE,zF])
     have KR5:=hid ((kr.trans (Kept.refl wr).drew).trans k5)
     clear hHeld hHeld2 kr k5
     go_wp2_with fail
     go_roundw
     case rel => exact ⟨i + 1,by have:=HII.out; omega,by go_num,KR5.out⟩
     case measure => have:=HII.out; simp [intOf]; omega
    ·obtain rfl : n = i:=by omega
     have d1 : decide ((n : Int) < (n : Int)) = false:=decide_eq_false (by omega)
     have d2 : decide (n < n) = false:=decide_eq_false (by omega)
     clear hin hi kr
     go_wp2_with fail
     go_at_call 18
     refine (HBy.out _ KR.out).mono ?_
     rintro e w5 ⟨rfl,k5⟩
     have K5:=hid k5
     clear k5 c2
     go_wp2_with fail
     go_at_call 19
     refine (HLs.out _ _ KR.out K5.out).mono ?_
     rintro e w6 ⟨rfl,k6⟩
     have K6:=hid (((KR.out.kx (fun b => Hm ≤ b)).trans (K5.out.mono HBH.out)).trans k6)
     clear k6
     go_wp2_with fail
     go_ret
     exact ⟨rfl,K6.out⟩
end Go.Proofs.Ytocjfdiimapojaa
