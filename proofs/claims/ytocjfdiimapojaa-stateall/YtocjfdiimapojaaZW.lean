/- The document's Read: the pure reading as a row of continuations; lists that were read; one form whether something was wrong or not. -/
import Derived.Test.YtocjfdiimapojaaMK
import Derived.Test.YtocjfdiimapojaaZD
namespace Go.Proofs.Ytocjfdiimapojaa
open Go.ChangeShapes Go.WideShapes Go.ChangeAt Go.RowKit
set_option maxHeartbeats 16000000
set_option maxRecDepth 100000
set_option linter.unusedVariables false
set_option linter.unusedSimpArgs false
section
variable (B : List Int)
def kG (s : Sta) (q : Nat) : Res Sta:=(pend B q).andTo fun _ q => .ok s q
def kF (a b d lo ra : Int) (P : List Mat) (n : Int) (q : Nat) : Res Sta:=(prep n.toNat (pmats 1 4) B q).andTo fun Q q => kG B ⟨a,b,d,P,Q,lo,ra⟩ q
def kE (a b d lo ra : Int) (P : List Mat) (q : Nat) : Res Sta:=(pnum 2 (betw 0 64) B q).andTo fun n q => kF B a b d lo ra P n q
def kP (a b d lo ra n : Int) (q : Nat) : Res Sta:=(prep n.toNat pmat B q).andTo fun P q => kE B a b d lo ra P q
def kD (a b d lo ra : Int) (q : Nat) : Res Sta:=(pnum 2 (betw 0 64) B q).andTo fun n q => kP B a b d lo ra n q
def kC (a b d lo : Int) (q : Nat) : Res Sta:=(pnum 8 anyB B q).andTo fun ra q => kD B a b d lo ra q
def kB (a b d : Int) (q : Nat) : Res Sta:=(pnum 8 anyB B q).andTo fun lo q => kC B a b d lo q
def kA3 (a b : Int) (q : Nat) : Res Sta:=(pnum 8 (betw 0 1099511627776) B q).andTo fun d q => kB B a b d q
def kA2 (a : Int) (q : Nat) : Res Sta:=(pnum 8 (betw 0 1099511627776) B q).andTo fun b q => kA3 B a b q
def kA1 (q : Nat) : Res Sta:=(pnum 8 (betw 0 1099511627776) B q).andTo fun a q => kA2 B a q
end
theorem betw_small (k : Nat) (hk : k ≤ 2) (B : List Int) (hB : Byt B) (hi : Int) (q : Nat) : decide (numv k B q ≤ hi) = betw 0 hi (numv k B q):=by
 have h1:=un_nn k B q hB
 have e2 : (256 : Int) ^ k ≤ 256 ^ 2:=by
  have h9:=Int.ofNat_le.2 (Nat.pow_le_pow_right (n:=256) (by decide) hk)
  rw [Int.natCast_pow,Int.natCast_pow] at h9
  exact h9
 have e3 : (256 : Int) ^ 2 = 65536:=by decide
 unfold betw numv
 rw [wrap_i64]
 by_cases h : un k B q ≤ hi
 ·rw [decide_eq_true (by omega),decide_eq_true (by omega)]
 ·rw [decide_eq_false (by omega),decide_eq_false (by omega)]
theorem pmats_betw (k : Nat) (hk : k ≤ 2) (m : Int) (B : List Int) (hB : Byt B) (q : Nat) : pmats k m B q = (pnum k (betw 0 m) B q).andTo fun n q => prep n.toNat pmat B q:=by
 show (pnum k (fun n => decide (n ≤ m)) B q).andTo (fun n q => prep n.toNat pmat B q) = _
 rw [pnum_congr (g:=betw 0 m) B q (betw_small k hk B hB m q)]
theorem pall_cont (B : List Int) (hB : Byt B) : pall B 0 = (pmk mkL B 0).andTo fun _ q => kA1 B q:=by
 show ((pmk mkL B 0).andTo fun _ q => _).andTo _ = _
 rw [Res.andTo_andTo]
 congr 1
 funext _ q
 unfold kA1
 show ((pnum 8 stepB B q).andTo _).andTo _ = _
 rw [Res.andTo_andTo]
 refine congrArg _ (funext fun a => funext fun q => ?_)
 unfold kA2
 show ((pnum 8 stepB B q).andTo _).andTo _ = _
 rw [Res.andTo_andTo]
 refine congrArg _ (funext fun b => funext fun q => ?_)
 unfold kA3
 show ((pnum 8 stepB B q).andTo _).andTo _ = _
 rw [Res.andTo_andTo]
 refine congrArg _ (funext fun d => funext fun q => ?_)
 unfold kB
 show ((pnum 8 anyB B q).andTo _).andTo _ = _
 rw [Res.andTo_andTo]
 refine congrArg _ (funext fun lo => funext fun q => ?_)
 unfold kC
 show ((pnum 8 anyB B q).andTo _).andTo _ = _
 rw [Res.andTo_andTo]
 refine congrArg _ (funext fun ra => funext fun q => ?_)
 unfold kD
 show ((pmats 2 64 B q).andTo _).andTo _ = _
 rw [Res.andTo_andTo,pmats_betw 2 (by decide) 64 B hB,Res.andTo_andTo]
 refine congrArg _ (funext fun n => funext fun q => ?_)
 unfold kP
 refine congrArg _ (funext fun P => funext fun q => ?_)
 unfold kE
 show ((pnum 2 (fun n => decide (n ≤ 64)) B q).andTo _).andTo _ = _
 rw [Res.andTo_andTo,pnum_congr (g:=betw 0 64) B q (betw_small 2 (by decide) B hB 64 q)]
 refine congrArg _ (funext fun n => funext fun q => ?_)
 unfold kF
 show ((prep n.toNat (pmats 1 4) B q).andTo _).andTo _ = _
 rw [Res.andTo_andTo]
 rfl
def SdV (H : Nat) (w : World) : List (List Mat) → List Value → Prop
 | [],V => V = []
 | l :: Q,V => ∃ v V',V = v :: V' ∧ TdV H w v l ∧ SdV H w Q V'
theorem SdV.on {H : Nat} {w w' : World} (k : ∀ b cur e,H ≤ b → (e = 3 ∨ e = 54) → w.heap[b]? = some (.cells cur e (0,0)) → w'.heap[b]? = w.heap[b]?) : ∀ {Q : List (List Mat)} {V : List Value},SdV H w Q V → SdV H w' Q V
 | [],_,h => h
 | l :: Q,_,⟨v,V',e,h,h2⟩ => ⟨v,V',e,h.on k,SdV.on k h2⟩
theorem SdV.snoc {H : Nat} {w : World} {l : List Mat} {v : Value} (hl : TdV H w v l) : ∀ {Q : List (List Mat)} {V : List Value},SdV H w Q V → SdV H w (Q ++ [l]) (V ++ [v])
 | [],_,h => by cases h; exact ⟨v,[],rfl,hl,rfl⟩
 | x :: Q,_,⟨u,V',e,h,h2⟩ => ⟨u,V' ++ [v],by rw [e]; rfl,h,SdV.snoc hl h2⟩
theorem SdV.mono {H H' : Nat} {w : World} (hH : H' ≤ H) : ∀ {Q : List (List Mat)} {V : List Value},SdV H w Q V → SdV H' w Q V
 | [],_,h => h
 | l :: Q,_,⟨v,V',e,h,h2⟩ => ⟨v,V',e,h.mono hH,SdV.mono hH h2⟩
/-- A list of lists of matrices that was read: all of it is new. -/
def QdV (H : Nat) (w : World) (v : Value) (Q : List (List Mat)) : Prop:=∃ V,MS 1 32 H w v Q.length V ∧ SdV H w Q V
theorem QdV.kx {H : Nat} {w w' : World} {v : Value} {l : List (List Mat)} {X : Nat → Prop} (h : QdV H w v l) (k : KX X w w') (hX : ∀ b,X b → b < H) : QdV H w' v l:=by
 obtain ⟨V,h1,h2⟩:=h
 exact ⟨V,h1.on fun b hb hl => k.block b hl fun hx => by have:=hX b hx; omega,h2.on fun b cur e hb _ hg => k.block b (lt_of_block hg) fun hx => by have:=hX b hx; omega⟩
theorem QdV.mono {H H' : Nat} {w : World} {v : Value} {l : List (List Mat)} (h : QdV H w v l) (hH : H' ≤ H) : QdV H' w v l:=by
 obtain ⟨V,h1,h2⟩:=h
 exact ⟨V,h1.mono hH,h2.mono hH⟩
theorem QdV.form {H : Nat} {w : World} {v : Value} {l : List (List Mat)} (h : QdV H w v l) : ∃ ao c,v = .slice ao l.length c:=by
 obtain ⟨V,h1,-⟩:=h
 exact h1.form
/-- One more list. -/
theorem qd_app (H : Nat) (wr : World) (qv : Value) (Q : List (List Mat)) (h : QdV H wr qv Q) (lv : Value) (l : List Mat) (hl : TdV H wr lv l) (hH : H ≤ wr.heap.size) (hlen : Q.length < 10000000) :
  ∃ v' w',(∀ ty,(Builtin.append_ #[33,33] ty #[qv,.slice (some ⟨wr.heap.size,0,none⟩) 1 1]).run Try.prog (wr.alloc (.cells #[lv] 32)) = .ok v' w') ∧ QdV H w' v' (Q ++ [l]) ∧ KX (fun b => H ≤ b) wr w' ∧ ∀ v0 l0,TdV H wr v0 l0 → TdV H w' v0 l0:=by
 obtain ⟨V,h1,h2⟩:=h
 obtain ⟨ao,c,elv⟩:=hl.form
 obtain ⟨v',w',hr,hm,hk⟩:=app_elemx 33 32 lm_under (.slice none 0 0) 1 24 lm_info rfl (by decide) H wr qv Q.length V h1 [lv] rfl (fun u hu => by
  rw [List.mem_singleton] at hu
  rw [hu,elv]
  rfl) hH hlen
 have hkeep : ∀ b cur e,H ≤ b → (e = 3 ∨ e = 54) → wr.heap[b]? = some (.cells cur e (0,0)) → w'.heap[b]? = wr.heap[b]?:=fun b cur e hb he hg => hk.block b (lt_of_block hg) fun ⟨n,c',e1⟩ => by
  rcases h1 with ⟨-,-,e2⟩ | ⟨g2,cap,e2,-,-,-,cur2,hg2,-⟩
  ·rw [e1] at e2; cases e2
  ·rw [e1] at e2
   cases e2
   rw [hg] at hg2
   simp at hg2
   rcases he with rfl | rfl <;> simp at hg2
 refine ⟨v',w',hr,⟨V ++ [lv],?_,?_⟩,hk.mono ?_,fun v0 l0 h0 => h0.on hkeep⟩
 ·rw [List.length_append]; exact hm
 ·exact (h2.on hkeep).snoc (hl.on hkeep)
 ·rintro b ⟨n,c,e⟩
  rcases h1 with ⟨-,-,e2⟩ | ⟨g2,cap,e2,hg2,-⟩
  ·rw [e] at e2; cases e2
  ·rw [e] at e2; cases e2; exact hg2
theorem SdV.get {H : Nat} {w : World} : ∀ {Q : List (List Mat)} {V : List Value},SdV H w Q V → ∀ (i : Nat) (l : List Mat),Q[i]? = some l → ∃ v,V[i]? = some v ∧ TdV H w v l
 | [],_,_,i,m,hi => by simp at hi
 | x :: l,_,⟨v,V',e,h1,h⟩,0,m,hi => by
  cases hi
  subst e
  exact ⟨v,rfl,h1⟩
 | x :: l,_,⟨v,V',e,h1,h⟩,i + 1,m,hi => by
  obtain ⟨u,h2,h3⟩:=SdV.get h i m (by simpa using hi)
  subst e
  exact ⟨u,by simpa using h2,h3⟩
theorem QdV.ll {H : Nat} {w : World} {v : Value} {Q : List (List Mat)} (h : QdV H w v Q) : LlI w v Q:=by
 obtain ⟨V,hM,hV⟩:=h
 rcases hM with ⟨h0,-,rfl⟩ | ⟨g,cap,rfl,-,-,hc,hO⟩
 ·have : Q = []:=List.length_eq_zero_iff.1 h0
  subst this
  exact ⟨none,0,rfl,Nat.le_refl _,fun h => absurd rfl h⟩
 ·refine ⟨_,cap,rfl,hc,fun _ => ⟨g,0,rfl,fun i l hi => ?_⟩⟩
  obtain ⟨u,h1,h2⟩:=hV.get i l hi
  rw [Nat.zero_add]
  exact ⟨u,hO.cell _ _ h1,h2.ml⟩
/-- A state that the document's reader has read: all of it in new blocks. -/
def StD (H : Nat) (w : World) (v : Value) (s : Sta) : Prop:=∃ pv qv,v = .agg #[.int .i64 s.a,.int .i64 s.b,.int .i64 s.d,pv,qv,.int .i64 s.lo,.int .i64 s.ra] ∧ TdV H w pv s.P ∧ QdV H w qv s.Q
theorem StD.st {H : Nat} {w : World} {v : Value} {s : Sta} (h : StD H w v s) : StI w v s:=by
 obtain ⟨pv,qv,e,h1,h2⟩:=h
 exact ⟨pv,qv,e,h1.ml,h2.ll⟩
def RdD (H : Nat) (x : Res Sta) (e : Ending) (w' : World) : Prop:=match x with
 | .no er pl => e = .returned (.tuple #[zst,.int .i64 pl,.int .i64 er])
 | .ok s _ => ∃ v,e = .returned (.tuple #[v,.int .i64 0,.int .i64 0]) ∧ StD H w' v s
theorem LV.split {α : Type} {R : Nat} {ao : Option Addr} {B : List Int} {cap : Nat} {X : Res α} {w : World} {f : Nat → Res α} (h : LV R ao B cap X w f) : ∃ (q : Nat) (er pl : Int),RQ w R ao B cap q er pl ∧ (er = 0 → X = f q) ∧ (er ≠ 0 → X = .no er pl):=by
 rcases h with ⟨q,pl,h1,h2⟩ | ⟨er,p,q,h0,h1,h2⟩
 ·exact ⟨q,0,pl,h1,fun _ => h2,fun h => absurd rfl h⟩
 ·exact ⟨q,er,p,h2,fun h => absurd h h0,fun _ => h1⟩
/-- A matrix,where nothing was wrong: four cells,read or not. -/
theorem LV.mat2 {α : Type} {R : Nat} {ao : Option Addr} {B : List Int} {cap q : Nat} {pl : Int} {X : Res α} {w : World} (h1 : RQ w R ao B cap q 0 pl) (hB : Byt B) (hlen : B.length ≤ 100000000) (g : Mat → Nat → Res α) (h2 : X = (pmat B q).andTo g) :
  Calls Try.prog 35 #[.pointer (some ⟨R,0,none⟩)] w fun e w' => KX (fun b => b = R) w w' ∧ ∃ (er pl' : Int) (q' : Nat) (r c n : Int) (ao' : Option Addr) (l cp : Nat) (m : Mat),e = .returned (.agg #[.int .i64 r,.int .i64 c,.int .i64 n,.slice ao' l cp]) ∧ RQ w' R ao B cap q' er pl' ∧ (er ≠ 0 → X = .no er pl') ∧ (er = 0 → X = g m q') ∧ (er = 0 → ∃ b,r = m.r ∧ c = m.c ∧ n = m.n ∧ ao' = some ⟨b,0,none⟩ ∧ l = m.L.length ∧ w.heap.size ≤ b ∧ OwnS w' b cp 1 3 (m.L.map (Value.int .i64))):=by
 refine (LV.mat h1 hB hlen g h2).mono ?_
 rintro e w' ⟨kx,⟨m,q2,v,rfl,⟨b,C,rfl,hb,ho⟩,hr,hx⟩ | ⟨er,p,q2,v,rfl,⟨r,c,n,ao',l,cp,rfl⟩,her,hx,hr⟩⟩
 ·exact ⟨kx,0,pl,q2,_,_,_,_,_,_,m,rfl,hr,fun h => absurd rfl h,fun _ => hx,fun _ => ⟨b,rfl,rfl,rfl,rfl,rfl,hb,ho⟩⟩
 ·exact ⟨kx,er,p,q2,r,c,n,ao',l,cp,⟨0,0,0,[]⟩,rfl,hr,fun _ => hx,fun h => absurd h her,fun h => absurd h her⟩
/-- A list of matrices that was read,as long as nothing was wrong. -/
def GT (er : Int) (H : Nat) (w : World) (v : Value) (k : Nat) (l : List Mat) : Prop:=(∃ V,MS 4 54 H w v k V) ∧ (er = 0 → l.length = k ∧ TdV H w v l)
theorem GT.form {er : Int} {H : Nat} {w : World} {v : Value} {k : Nat} {l : List Mat} (h : GT er H w v k l) : ∃ ao c,v = .slice ao k c:=by
 obtain ⟨⟨V,h1⟩,-⟩:=h
 exact h1.form
theorem GT.kx {er : Int} {H : Nat} {w w' : World} {v : Value} {k : Nat} {l : List Mat} {X : Nat → Prop} (h : GT er H w v k l) (kk : KX X w w') (hX : ∀ b,X b → b < H) : GT er H w' v k l:=by
 obtain ⟨⟨V,h1⟩,h2⟩:=h
 exact ⟨⟨V,h1.on fun b hb hl => kk.block b hl fun hx => by have:=hX b hx; omega⟩,fun h => ⟨(h2 h).1,(h2 h).2.kx kk hX⟩⟩
theorem gt_app (er : Int) (H : Nat) (wr : World) (lv : Value) (k : Nat) (l : List Mat) (hk : l.length = k) (h : TdV H wr lv l) (r c n : Int) (ao : Option Addr) (x cp : Nat) (m : Mat) (hm : er = 0 → ∃ b,r = m.r ∧ c = m.c ∧ n = m.n ∧ ao = some ⟨b,0,none⟩ ∧ x = m.L.length ∧ H ≤ b ∧ OwnS wr b cp 1 3 (m.L.map (Value.int .i64))) (hH : H ≤ wr.heap.size) (hlen : k < 10000000) :
  ∃ a' c' w',(∀ ty,(Builtin.append_ #[32,32] ty #[lv,.slice (some ⟨wr.heap.size,0,none⟩) 1 1]).run Try.prog (wr.alloc (.cells #[.int .i64 r,.int .i64 c,.int .i64 n,.slice ao x cp] 54)) = .ok (.slice a' (k + 1) c') w') ∧ GT er H w' (.slice a' (k + 1) c') (k + 1) (l ++ [m]) ∧ KX (fun b => H ≤ b) wr w':=by
 by_cases her : er = 0
 ·obtain ⟨b,rfl,rfl,rfl,rfl,rfl,hb,ho⟩:=hm her
  obtain ⟨v',w',hr,ht,kk⟩:=td_app H wr lv l h m b cp hb ho hH (by omega)
  obtain ⟨a',c',rfl⟩:=ht.form
  rw [List.length_append,hk] at hr ht
  refine ⟨a',c',w',hr,⟨?_,fun _ => ⟨by rw [List.length_append,hk]; rfl,ht⟩⟩,kk⟩
  obtain ⟨V,hM,-⟩:=ht
  rw [List.length_append,hk] at hM
  exact ⟨V,hM⟩
 ·obtain ⟨V,hM,-⟩:=h
  rw [hk] at hM
  obtain ⟨v',w',hr,hm2,hk2⟩:=app_elemx 32 54 mat_under (.agg #[.int .i64 0,.int .i64 0,.int .i64 0,.slice none 0 0]) 4 48 mat_info rfl (by decide) H wr lv k V hM [.int .i64 r,.int .i64 c,.int .i64 n,.slice ao x cp] rfl (fun u hu => by
   simp only [List.mem_cons,List.not_mem_nil,or_false] at hu
   rcases hu with rfl | rfl | rfl | rfl <;> rfl) hH hlen
  obtain ⟨a',c',rfl⟩:=hm2.form
  refine ⟨a',c',w',hr,⟨⟨_,hm2⟩,fun h => absurd h her⟩,hk2.mono ?_⟩
  rintro b ⟨n',c'',e⟩
  rcases hM with ⟨-,-,e2⟩ | ⟨g2,cap,e2,hg2,-⟩
  ·rw [e] at e2; cases e2
  ·rw [e] at e2; cases e2; exact hg2
/-- A list of lists,as long as nothing was wrong. -/
def GQ (er : Int) (H : Nat) (w : World) (v : Value) (k : Nat) (Q : List (List Mat)) : Prop:=(∃ V,MS 1 32 H w v k V) ∧ (er = 0 → Q.length = k ∧ QdV H w v Q)
theorem GQ.kx {er : Int} {H : Nat} {w w' : World} {v : Value} {k : Nat} {l : List (List Mat)} {X : Nat → Prop} (h : GQ er H w v k l) (kk : KX X w w') (hX : ∀ b,X b → b < H) : GQ er H w' v k l:=by
 obtain ⟨⟨V,h1⟩,h2⟩:=h
 exact ⟨⟨V,h1.on fun b hb hl => kk.block b hl fun hx => by have:=hX b hx; omega⟩,fun h => ⟨(h2 h).1,(h2 h).2.kx kk hX⟩⟩
theorem gq_app (er : Int) (H : Nat) (wr : World) (qv : Value) (k : Nat) (Q : List (List Mat)) (hk : Q.length = k) (h : QdV H wr qv Q) (lv : Value) (kl : Nat) (l : List Mat) (hl : GT er H wr lv kl l) (hH : H ≤ wr.heap.size) (hlen : k < 10000000) :
  ∃ a' c' w',(∀ ty,(Builtin.append_ #[33,33] ty #[qv,.slice (some ⟨wr.heap.size,0,none⟩) 1 1]).run Try.prog (wr.alloc (.cells #[lv] 32)) = .ok (.slice a' (k + 1) c') w') ∧ GQ er H w' (.slice a' (k + 1) c') (k + 1) (Q ++ [l]) ∧ KX (fun b => H ≤ b) wr w' ∧ ∀ v0 l0,TdV H wr v0 l0 → TdV H w' v0 l0:=by
 by_cases her : er = 0
 ·obtain ⟨v',w',hr,ht,kk,hs⟩:=qd_app H wr qv Q h lv l (hl.2 her).2 hH (by omega)
  obtain ⟨a',c',rfl⟩:=ht.form
  rw [List.length_append,hk] at hr ht
  refine ⟨a',c',w',hr,⟨?_,fun _ => ⟨by rw [List.length_append,hk]; rfl,ht⟩⟩,kk,hs⟩
  obtain ⟨V,hM,-⟩:=ht
  rw [List.length_append,hk] at hM
  exact ⟨V,hM⟩
 ·obtain ⟨ao,c,elv⟩:=hl.form
  obtain ⟨V,hM,-⟩:=h
  rw [hk] at hM
  obtain ⟨v',w',hr,hm2,hk2⟩:=app_elemx 33 32 lm_under (.slice none 0 0) 1 24 lm_info rfl (by decide) H wr qv k V hM [lv] rfl (fun u hu => by
   rw [List.mem_singleton] at hu
   rw [hu,elv]
   rfl) hH hlen
  obtain ⟨a',c',rfl⟩:=hm2.form
  have hkeep : ∀ b cur e,H ≤ b → (e = 3 ∨ e = 54) → wr.heap[b]? = some (.cells cur e (0,0)) → w'.heap[b]? = wr.heap[b]?:=fun b cur e hb he hg => hk2.block b (lt_of_block hg) fun ⟨n,c',e1⟩ => by
   rcases hM with ⟨-,-,e2⟩ | ⟨g2,cap,e2,-,-,-,cur2,hg2,-⟩
   ·rw [e1] at e2; cases e2
   ·rw [e1] at e2
    cases e2
    rw [hg] at hg2
    simp at hg2
    rcases he with rfl | rfl <;> simp at hg2
  refine ⟨a',c',w',hr,⟨⟨_,hm2⟩,fun h => absurd h her⟩,hk2.mono ?_,fun v0 l0 h0 => h0.on hkeep⟩
  rintro b ⟨n',c'',e⟩
  rcases hM with ⟨-,-,e2⟩ | ⟨g2,cap,e2,hg2,-⟩
  ·rw [e] at e2; cases e2
  ·rw [e] at e2; cases e2; exact hg2
/-- The pure reading of lists,a piece at a time. -/
theorem mat_step {α : Type} (B : List Int) (n q : Nat) (F : List Mat → Nat → Res α) (acc : List Mat) : (prep (n + 1) pmat B q).andTo (fun l q => F (acc ++ l) q) = (pmat B q).andTo fun m q2 => (prep n pmat B q2).andTo (fun l q => F ((acc ++ [m]) ++ l) q):=by
 show ((pmat B q).andTo _).andTo _ = _
 rw [Res.andTo_andTo]
 refine congrArg _ (funext fun m => funext fun q2 => ?_)
 show ((prep n pmat B q2).andTo _).andTo _ = _
 rw [Res.andTo_andTo]
 refine congrArg _ (funext fun l => funext fun q3 => ?_)
 show F (acc ++ m :: l) q3 = _
 rw [List.append_assoc]
 rfl
theorem mat_end {α : Type} (B : List Int) (q : Nat) (F : List Mat → Nat → Res α) (acc : List Mat) : (prep 0 pmat B q).andTo (fun l q => F (acc ++ l) q) = F acc q:=by
 show F (acc ++ []) q = _
 rw [List.append_nil]
theorem slot_step (B : List Int) (hB : Byt B) (n q : Nat) (F : List (List Mat) → Nat → Res Sta) (Q : List (List Mat)) : (prep (n + 1) (pmats 1 4) B q).andTo (fun l q => F (Q ++ l) q) = (pnum 1 (betw 0 4) B q).andTo fun k q => (prep k.toNat pmat B q).andTo fun l q => (prep n (pmats 1 4) B q).andTo fun Q' q => F ((Q ++ [l]) ++ Q') q:=by
 show ((pmats 1 4 B q).andTo _).andTo _ = _
 rw [Res.andTo_andTo,pmats_betw 1 (by decide) 4 B hB,Res.andTo_andTo]
 refine congrArg _ (funext fun k => funext fun q2 => ?_)
 refine congrArg _ (funext fun l => funext fun q3 => ?_)
 show ((prep n (pmats 1 4) B q3).andTo _).andTo _ = _
 rw [Res.andTo_andTo]
 refine congrArg _ (funext fun Q' => funext fun q4 => ?_)
 show F (Q ++ l :: Q') q4 = _
 rw [List.append_assoc]
 rfl
def kH (B : List Int) (a b d : Int) (P : List Mat) (lo ra : Int) (Q : List (List Mat)) (q : Nat) : Res Sta:=kG B ⟨a,b,d,P,Q,lo,ra⟩ q
def kS (B : List Int) (n : Nat) (F : List (List Mat) → Nat → Res Sta) (Q : List (List Mat)) (l : List Mat) (q : Nat) : Res Sta:=(prep n (pmats 1 4) B q).andTo fun Q' q => F ((Q ++ [l]) ++ Q') q
def kR (B : List Int) (n : Nat) (F : List (List Mat) → Nat → Res Sta) (Q : List (List Mat)) (k : Int) (q : Nat) : Res Sta:=(prep k.toNat pmat B q).andTo (kS B n F Q)
theorem slot_step2 (B : List Int) (hB : Byt B) (n q : Nat) (F : List (List Mat) → Nat → Res Sta) (Q : List (List Mat)) : (prep (n + 1) (pmats 1 4) B q).andTo (fun l q => F (Q ++ l) q) = (pnum 1 (betw 0 4) B q).andTo (kR B n F Q):=slot_step B hB n q F Q
theorem TdV.k2 {H : Nat} {w w' : World} {v : Value} {l : List Mat} {X : Nat → Prop} (h : TdV H w v l) (k : KX X w w') (hX : ∀ b,b < w.heap.size → H ≤ b → ¬ X b) : TdV H w' v l:=h.on fun b cur e hb _ hg => k.block b (lt_of_block hg) (hX b (lt_of_block hg) hb)
theorem QdV.k2 {H : Nat} {w w' : World} {v : Value} {l : List (List Mat)} {X : Nat → Prop} (h : QdV H w v l) (k : KX X w w') (hX : ∀ b,b < w.heap.size → H ≤ b → ¬ X b) : QdV H w' v l:=by
 obtain ⟨V,h1,h2⟩:=h
 exact ⟨V,h1.on fun b hb hl => k.block b hl (hX b hl hb),h2.on fun b cur e hb _ hg => k.block b (lt_of_block hg) (hX b (lt_of_block hg) hb)⟩
theorem GT.mono {er : Int} {H H' : Nat} {w : World} {v : Value} {k : Nat} {l : List Mat} (h : GT er H w v k l) (hH : H' ≤ H) : GT er H' w v k l:=by
 obtain ⟨⟨V,h1⟩,h2⟩:=h
 exact ⟨⟨V,h1.mono hH⟩,fun h => ⟨(h2 h).1,(h2 h).2.mono hH⟩⟩
/-- Seven cells that were written,read back. -/
theorem sets7 {w : World} {M : Nat} {vs : List Value} (h : Bk w M vs) (hl : vs.length = 7) (v0 v1 v2 v3 v4 v5 v6 : Value) : Bk (((((((w.setCell ⟨M,0,none⟩ v0).setCell ⟨M,1,none⟩ v1).setCell ⟨M,2,none⟩ v2).setCell ⟨M,3,none⟩ v3).setCell ⟨M,4,none⟩ v4).setCell ⟨M,5,none⟩ v5).setCell ⟨M,6,none⟩ v6) M [v0,v1,v2,v3,v4,v5,v6] ∧ KX (fun b => b = M) w (((((((w.setCell ⟨M,0,none⟩ v0).setCell ⟨M,1,none⟩ v1).setCell ⟨M,2,none⟩ v2).setCell ⟨M,3,none⟩ v3).setCell ⟨M,4,none⟩ v4).setCell ⟨M,5,none⟩ v5).setCell ⟨M,6,none⟩ v6):=by
 match vs,hl with
 | [_,_,_,_,_,_,_],_ =>
  exact ⟨((((((h.set 0 v0).set 1 v1).set 2 v2).set 3 v3).set 4 v4).set 5 v5).set 6 v6,((((((((Grw.refl M w).setCell 0 _).setCell 1 _).setCell 2 _).setCell 3 _).setCell 4 _).setCell 5 _).setCell 6 _).kx⟩
theorem slot_end (B : List Int) (q : Nat) (F : List (List Mat) → Nat → Res Sta) (Q : List (List Mat)) : (prep 0 (pmats 1 4) B q).andTo (fun l q => F (Q ++ l) q) = F Q q:=by
 show F (Q ++ []) q = _
 rw [List.append_nil]
end Go.Proofs.Ytocjfdiimapojaa
