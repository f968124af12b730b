/- The document's reader,in one walk whether something was wrong or not: what is left to be read,or a fault. What the document's reader has read: lists of matrices,all of it in new blocks. The greatest state in form: how it lies while it is made,its bytes. The greatest state while it is made: one matrix more among the parameters,one list more. The document's bytes: a row of bytes that grows; Put. -/
import Derived.Test.YtocjfdiimapojaaZS
import Derived.Test.YtocjfdiimapojaaMI
namespace Go.Proofs.Ytocjfdiimapojaa
open Go.ChangeShapes Go.WideShapes Go.ChangeAt Go.RowKit
set_option maxHeartbeats 16000000
set_option maxRecDepth 100000
set_option linter.unusedVariables false
set_option linter.unusedSimpArgs false
/-- The whole reading comes to X: by f from the next place on,if nothing was wrong; else it is the fault that is kept. -/
def LV {α : Type} (R : Nat) (ao : Option Addr) (B : List Int) (cap : Nat) (X : Res α) (w : World) (f : Nat → Res α) : Prop:=(∃ q pl,RQ w R ao B cap q 0 pl ∧ X = f q) ∨ (∃ er p q,er ≠ 0 ∧ X = .no er p ∧ RQ w R ao B cap q er p)
theorem LV.kx {α : Type} {R : Nat} {ao : Option Addr} {B : List Int} {cap : Nat} {X : Res α} {w w' : World} {f : Nat → Res α} (h : LV R ao B cap X w f) {Y : Nat → Prop} (k : KX Y w w') (hR : ¬ Y R) (hB : B ≠ [] → ∀ b off,ao = some ⟨b,off,none⟩ → b < w.heap.size → ¬ Y b) : LV R ao B cap X w' f:=by
 rcases h with ⟨q,pl,h1,h2⟩ | ⟨er,p,q,h0,h1,h2⟩
 ·exact .inl ⟨q,pl,h1.kx k hR hB,h2⟩
 ·exact .inr ⟨er,p,q,h0,h1,h2.kx k hR hB⟩
theorem LV.kept {α : Type} {R : Nat} {ao : Option Addr} {B : List Int} {cap : Nat} {X : Res α} {w w' : World} {f : Nat → Res α} (h : LV R ao B cap X w f) (k : Kept w w') : LV R ao B cap X w' f:=h.kx (k.kx fun _ => False) id (fun _ _ _ _ _ h => h)
theorem LV.er {α : Type} {R : Nat} {ao : Option Addr} {B : List Int} {cap : Nat} {X : Res α} {w : World} {f : Nat → Res α} (h : LV R ao B cap X w f) : ∃ er,w.cell? ⟨R,2,none⟩ = some (.int .i64 er):=by
 rcases h with ⟨q,pl,h1,h2⟩ | ⟨er,p,q,h0,h1,h2⟩
 ·exact ⟨0,h1.bk.c 2 _ rfl⟩
 ·exact ⟨er,h2.bk.c 2 _ rfl⟩
theorem LV.want {α : Type} {R : Nat} {ao : Option Addr} {B : List Int} {cap : Nat} {X : Res α} {w : World} {f : Nat → Res α} (h : LV R ao B cap X w f) (hB : Byt B) (hlen : B.length ≤ 100000000) (k : Nat) (hk : k ≤ 8) (hk0 : 0 < k) (lo hi : Int) (hlo : lo ≤ 0) (hhi : 0 ≤ hi) (g : Int → Nat → Res α) (hf : ∀ q,f q = (pnum k (betw lo hi) B q).andTo g) :
  Calls Try.prog 34 #[.pointer (some ⟨R,0,none⟩),.int .i64 (k : Int),.int .i64 lo,.int .i64 hi] w fun e w' => ∃ n,e = .returned (.int .i64 n) ∧ lo ≤ n ∧ n ≤ hi ∧ KX (fun b => b = R) w w' ∧ LV R ao B cap X w' (g n):=by
 rcases h with ⟨q,pl,h1,h2⟩ | ⟨er,p,q,h0,h1,h2⟩
 ·refine (rwant_any R ao B cap q pl hB hlen k hk hk0 lo hi w h1).mono ?_
  rintro e w' ⟨kx,hr⟩
  rcases hx : pnum k (betw lo hi) B q with ⟨er,p⟩ | ⟨n,q2⟩
  ·rw [hx] at hr
   obtain ⟨her,v,rfl,rfl,q2,hq⟩:=hr
   exact ⟨0,rfl,hlo,hhi,kx,.inr ⟨er,p,q2,her,by rw [h2,hf,hx]; rfl,hq⟩⟩
  ·rw [hx] at hr
   obtain ⟨v,rfl,rfl,hq⟩:=hr
   have hb:=of_decide_eq_true (pnum_ok hx).2.1
   exact ⟨n,rfl,hb.1,hb.2,kx,.inl ⟨q2,pl,hq,by rw [h2,hf,hx]; rfl⟩⟩
 ·refine (rwant_err R ao B cap q er p h0 k lo hi w h2).mono ?_
  rintro e w' ⟨rfl,k1⟩
  exact ⟨0,rfl,hlo,hhi,k1.kx _,.inr ⟨er,p,q,h0,h1,h2.kept k1⟩⟩
theorem LV.get {α : Type} {R : Nat} {ao : Option Addr} {B : List Int} {cap : Nat} {X : Res α} {w : World} {f : Nat → Res α} (h : LV R ao B cap X w f) (hB : Byt B) (hlen : B.length ≤ 100000000) (k : Nat) (hk : k ≤ 8) (hk0 : 0 < k) (g : Int → Nat → Res α) (hf : ∀ q,f q = (pnum k anyB B q).andTo g) :
  Calls Try.prog 32 #[.pointer (some ⟨R,0,none⟩),.int .i64 (k : Int)] w fun e w' => ∃ n,e = .returned (.int .i64 n) ∧ KX (fun b => b = R) w w' ∧ LV R ao B cap X w' (g n):=by
 rcases h with ⟨q,pl,h1,h2⟩ | ⟨er,p,q,h0,h1,h2⟩
 ·refine (rget_any R ao B cap q pl hB hlen k hk hk0 w h1).mono ?_
  rintro e w' ⟨kx,⟨hle,rfl,hq⟩ | ⟨hlt,rfl,hq⟩⟩
  ·exact ⟨_,rfl,kx,.inl ⟨q + k,pl,hq,by rw [h2,hf]; unfold pnum; rw [if_pos hle,if_pos (show anyB (numv k B q) = true from rfl)]; rfl⟩⟩
  ·exact ⟨0,rfl,kx,.inr ⟨50,_,q,by decide,by rw [h2,hf]; unfold pnum; rw [if_neg (by omega)]; rfl,hq⟩⟩
 ·refine (rget_err R ao B cap q er p h0 k w h2).mono ?_
  rintro e w' ⟨rfl,k1⟩
  exact ⟨0,rfl,k1.kx _,.inr ⟨er,p,q,h0,h1,h2.kept k1⟩⟩
/-- A matrix,where nothing was wrong: read,or a fault. -/
theorem LV.mat {α : Type} {R : Nat} {ao : Option Addr} {B : List Int} {cap q : Nat} {pl : Int} {X : Res α} {w : World} (h1 : RQ w R ao B cap q 0 pl) (hB : Byt B) (hlen : B.length ≤ 100000000) (g : Mat → Nat → Res α) (h2 : X = (pmat B q).andTo g) :
  Calls Try.prog 35 #[.pointer (some ⟨R,0,none⟩)] w fun e w' => KX (fun b => b = R) w w' ∧ ((∃ m q2 v,e = .returned v ∧ RdM w.heap.size m w' v ∧ RQ w' R ao B cap q2 0 pl ∧ X = g m q2) ∨ (∃ er p q2 v,e = .returned v ∧ AnyM w' v ∧ er ≠ 0 ∧ X = .no er p ∧ RQ w' R ao B cap q2 er p)):=by
 refine (rrmat_any R ao B cap q pl hB hlen w h1).mono ?_
 rintro e w' ⟨kx,hr⟩
 refine ⟨kx,?_⟩
 rcases hx : pmat B q with ⟨er,p⟩ | ⟨m,q2⟩
 ·rw [hx] at hr
  obtain ⟨her,v,rfl,hv,q2,hq⟩:=hr
  exact .inr ⟨er,p,q2,v,rfl,hv,her,by rw [h2,hx]; rfl,hq⟩
 ·rw [hx] at hr
  obtain ⟨v,rfl,hv,hq⟩:=hr
  exact .inl ⟨m,q2,v,rfl,hv,hq,by rw [h2,hx]; rfl⟩
end Go.Proofs.Ytocjfdiimapojaa
namespace Go.Proofs.Ytocjfdiimapojaa
open Go.ChangeShapes Go.WideShapes Go.ChangeAt Go.RowKit
set_option maxHeartbeats 16000000
set_option maxRecDepth 100000
set_option linter.unusedVariables false
set_option linter.unusedSimpArgs false
/-- A matrix's four cells,its bits in a block with room behind. -/
abbrev mcD (m : Mat) (g C : Nat) : List Value:=[.int .i64 m.r,.int .i64 m.c,.int .i64 m.n,.slice (some ⟨g,0,none⟩) m.L.length C]
def MsD (H : Nat) (w : World) : List Mat → List Value → Prop
 | [],V => V = []
 | m :: l,V => ∃ g C V',V = mcD m g C ++ V' ∧ H ≤ g ∧ OwnS w g C 1 3 (m.L.map (Value.int .i64)) ∧ MsD H w l V'
theorem MsD.on {H : Nat} {w w' : World} : ∀ {l : List Mat} {V : List Value},MsD H w l V → (∀ b cap V,H ≤ b → OwnS w b cap 1 3 V → w'.heap[b]? = w.heap[b]?) → MsD H w' l V
 | [],_,h,_ => h
 | m :: l,_,⟨g,C,V',e,hg,ho,h⟩,k => ⟨g,C,V',e,hg,ho.on (k g _ _ hg ho),MsD.on h k⟩
theorem MsD.snoc {H : Nat} {w : World} {m : Mat} {g C : Nat} (hg : H ≤ g) (ho : OwnS w g C 1 3 (m.L.map (Value.int .i64))) : ∀ {l : List Mat} {V : List Value},MsD H w l V → MsD H w (l ++ [m]) (V ++ mcD m g C)
 | [],_,h => by cases h; exact ⟨g,C,[],rfl,hg,ho,rfl⟩
 | x :: l,_,⟨g',C',V',e,hg',ho',h⟩ => ⟨g',C',V' ++ mcD m g C,by rw [e,List.append_assoc],hg',ho',MsD.snoc hg ho h⟩
theorem MsD.mono {H H' : Nat} {w : World} (hH : H' ≤ H) : ∀ {l : List Mat} {V : List Value},MsD H w l V → MsD H' w l V
 | [],_,h => h
 | m :: l,_,⟨g,C,V',e,hg,ho,h⟩ => ⟨g,C,V',e,Nat.le_trans hH hg,ho,MsD.mono hH h⟩
theorem MsD.get {H : Nat} {w : World} : ∀ {l : List Mat} {V : List Value},MsD H w l V → ∀ (i : Nat) (m : Mat),l[i]? = some m → ∃ g C,H ≤ g ∧ OwnS w g C 1 3 (m.L.map (Value.int .i64)) ∧ V[i * 4]? = some (.int .i64 m.r) ∧ V[i * 4 + 1]? = some (.int .i64 m.c) ∧ V[i * 4 + 2]? = some (.int .i64 m.n) ∧ V[i * 4 + 3]? = some (.slice (some ⟨g,0,none⟩) m.L.length C)
 | [],_,_,i,m,hi => by simp at hi
 | x :: l,_,⟨g,C,V',e,hg,ho,h⟩,0,m,hi => by
  cases hi
  subst e
  exact ⟨g,C,hg,ho,rfl,rfl,rfl,rfl⟩
 | x :: l,_,⟨g,C,V',e,hg,ho,h⟩,i + 1,m,hi => by
  obtain ⟨g2,C2,hg2,ho2,h0,h1,h2,h3⟩:=MsD.get h i m (by simpa using hi)
  subst e
  refine ⟨g2,C2,hg2,ho2,?_,?_,?_,?_⟩
  ·rw [List.getElem?_append_right (by show 4 ≤ _; omega),show (i + 1) * 4 - (mcD x g C).length = i * 4 by show (i + 1) * 4 - 4 = _; omega]; exact h0
  ·rw [List.getElem?_append_right (by show 4 ≤ _; omega),show (i + 1) * 4 + 1 - (mcD x g C).length = i * 4 + 1 by show (i + 1) * 4 + 1 - 4 = _; omega]; exact h1
  ·rw [List.getElem?_append_right (by show 4 ≤ _; omega),show (i + 1) * 4 + 2 - (mcD x g C).length = i * 4 + 2 by show (i + 1) * 4 + 2 - 4 = _; omega]; exact h2
  ·rw [List.getElem?_append_right (by show 4 ≤ _; omega),show (i + 1) * 4 + 3 - (mcD x g C).length = i * 4 + 3 by show (i + 1) * 4 + 3 - 4 = _; omega]; exact h3
/-- A list that was read. -/
def TdV (H : Nat) (w : World) (v : Value) (l : List Mat) : Prop:=∃ V,MS 4 54 H w v l.length V ∧ MsD H w l V
theorem own1_sl {w : World} {g C : Nat} {L : List Int} (h : OwnS w g C 1 3 (L.map (Value.int .i64))) : Sl w (.slice (some ⟨g,0,none⟩) L.length C) L:=by
 obtain ⟨cur,h1,h2,h3,h4,h5⟩:=h
 have ho : Own w g C L:=⟨cur,h1,by simpa using h2,h3,by simpa using h4,by simpa using h5⟩
 exact ho.sl
theorem TdV.ml {H : Nat} {w : World} {v : Value} {l : List Mat} (h : TdV H w v l) : MlI w v l:=by
 obtain ⟨V,hM,hV⟩:=h
 rcases hM with ⟨h0,-,rfl⟩ | ⟨g,cap,rfl,-,-,hc,hO⟩
 ·have : l = []:=List.length_eq_zero_iff.1 h0
  subst this
  exact ⟨none,0,rfl,Nat.le_refl _,fun h => absurd rfl h⟩
 ·refine ⟨_,cap,rfl,hc,fun _ => ⟨g,0,rfl,fun i m hi => ?_⟩⟩
  obtain ⟨b,C,-,ho,h0,h1,h2,h3⟩:=hV.get i m hi
  rw [Nat.zero_add]
  exact ⟨_,_,hO.cell _ _ h0,hO.cell _ _ h1,hO.cell _ _ h2,hO.cell _ _ h3,own1_sl ho⟩
theorem TdV.form {H : Nat} {w : World} {v : Value} {l : List Mat} (h : TdV H w v l) : ∃ ao c,v = .slice ao l.length c:=by
 obtain ⟨V,h1,-⟩:=h
 exact h1.form
theorem TdV.on {H : Nat} {w w' : World} {v : Value} {l : List Mat} (h : TdV H w v l) (k : ∀ b cur e,H ≤ b → (e = 3 ∨ e = 54) → w.heap[b]? = some (.cells cur e (0,0)) → w'.heap[b]? = w.heap[b]?) : TdV H w' v l:=by
 obtain ⟨V,h1,h2⟩:=h
 refine ⟨V,?_,h2.on fun b c L hb ho => ?_⟩
 ·rcases h1 with h | ⟨g,cap,a1,a2,a3,a4,a5⟩
  ·exact .inl h
  ·refine .inr ⟨g,cap,a1,a2,a3,a4,a5.on ?_⟩
   obtain ⟨cur,hg,-⟩:=a5
   exact k g cur _ a2 (.inr rfl) hg
 ·obtain ⟨cur,hg,-⟩:=ho
  exact k b cur 3 hb (.inl rfl) hg
theorem TdV.kx {H : Nat} {w w' : World} {v : Value} {l : List Mat} {X : Nat → Prop} (h : TdV H w v l) (k : KX X w w') (hX : ∀ b,X b → b < H) : TdV H w' v l:=h.on fun b cur e hb _ hg => k.block b (lt_of_block hg) fun hx => by have:=hX b hx; omega
theorem TdV.mono {H H' : Nat} {w : World} {v : Value} {l : List Mat} (h : TdV H w v l) (hH : H' ≤ H) : TdV H' w v l:=by
 obtain ⟨V,h1,h2⟩:=h
 exact ⟨V,h1.mono hH,h2.mono hH⟩
/-- One more matrix; any four cells,where something was wrong. -/
theorem td_app (H : Nat) (wr : World) (lv : Value) (l : List Mat) (h : TdV H wr lv l) (m : Mat) (g C : Nat) (hg : H ≤ g) (ho : OwnS wr g C 1 3 (m.L.map (Value.int .i64))) (hH : H ≤ wr.heap.size) (hlen : l.length < 10000000) :
  ∃ v' w',(∀ ty,(Builtin.append_ #[32,32] ty #[lv,.slice (some ⟨wr.heap.size,0,none⟩) 1 1]).run Try.prog (wr.alloc (.cells #[.int .i64 m.r,.int .i64 m.c,.int .i64 m.n,.slice (some ⟨g,0,none⟩) m.L.length C] 54)) = .ok v' w') ∧ TdV H w' v' (l ++ [m]) ∧ KX (fun b => H ≤ b) wr w':=by
 obtain ⟨V,hM,hV⟩:=h
 obtain ⟨v',w',hr,hm,hk⟩:=app_elemx 32 54 mat_under (.agg #[.int .i64 0,.int .i64 0,.int .i64 0,.slice none 0 0]) 4 48 mat_info rfl (by decide) H wr lv l.length V hM (mcD m g C) rfl (fun u hu => by
  simp only [mcD,List.mem_cons,List.not_mem_nil,or_false] at hu
  rcases hu with rfl | rfl | rfl | rfl <;> rfl) hH hlen
 have hkeep : ∀ b c V2,H ≤ b → OwnS wr b c 1 3 V2 → w'.heap[b]? = wr.heap[b]?:=fun b c V2 hb ho2 => hk.block b ho2.lt fun ⟨n,c',e⟩ => by
  rcases hM with ⟨-,-,e2⟩ | ⟨g2,cap,e2,-,-,-,cur2,hg2,-⟩
  ·rw [e] at e2; cases e2
  ·rw [e] at e2
   cases e2
   obtain ⟨cur,h1,-⟩:=ho2
   rw [h1] at hg2
   simp at hg2
 refine ⟨v',w',hr,⟨V ++ mcD m g C,by rw [List.length_append]; exact hm,(hV.on hkeep).snoc hg (ho.on (hkeep g _ _ hg ho))⟩,hk.mono ?_⟩
 rintro b ⟨n,c,e⟩
 rcases hM with ⟨-,-,e2⟩ | ⟨g2,cap,e2,hg2,-⟩
 ·rw [e] at e2; cases e2
 ·rw [e] at e2; cases e2; exact hg2
/-- A slice that may be appended to (nothing is asked of what it holds). -/
def AnyS (sz : Nat) (e : TypeId) (H : Nat) (w : World) (v : Value) : Prop:=∃ k V,MS sz e H w v k V ∧ k ≤ 1000
theorem TdV.any {H : Nat} {w : World} {v : Value} {l : List Mat} (h : TdV H w v l) (hl : l.length ≤ 1000) : AnyS 4 54 H w v:=by
 obtain ⟨V,hM,-⟩:=h
 exact ⟨_,V,hM,hl⟩
end Go.Proofs.Ytocjfdiimapojaa
namespace Go.Proofs.Ytocjfdiimapojaa
open Go.ChangeShapes Go.WideShapes Go.ChangeAt Go.RowKit
set_option maxHeartbeats 16000000
set_option maxRecDepth 100000
set_option linter.unusedVariables false
set_option linter.unusedSimpArgs false
abbrev grM : Mat:=⟨64,64,64,List.replicate 4096 0⟩
end Go.Proofs.Ytocjfdiimapojaa
namespace Go.Proofs.Ytocjfdiimapojaa
open Go.ChangeShapes Go.WideShapes Go.ChangeAt Go.RowKit
set_option maxHeartbeats 16000000
set_option maxRecDepth 100000
set_option linter.unusedVariables false
set_option linter.unusedSimpArgs false
/-- One element more (of several cells); the block is the old one,or a new one. -/
theorem app_elemw (t e : TypeId) (ht : Try.prog.underlying t = some (.slice e)) (z : Value) (sz by8 : Nat) (hinf : (Try.prog.info? e).map (fun i => (i.zero,i.size,i.bytes)) = some (some z,sz,by8)) (hz : z.cells.size = sz) (hby : by8 ≤ 64)
  (H : Nat) (wr : World) (lv : Value) (k : Nat) (V : List Value) (hM : MS sz e H wr lv k V) (news : List Value) (hn : news.length = sz) (h1 : ∀ u ∈ news,u.oneCell' = true) (hH : H ≤ wr.heap.size) (hlen : k < 100000000) :
  ∃ v' w',(∀ ty,(Builtin.append_ #[t,t] ty #[lv,.slice (some ⟨wr.heap.size,0,none⟩) 1 1]).run Try.prog (wr.alloc (.cells news.toArray e)) = .ok v' w') ∧ MS sz e H w' v' (k + 1) (V ++ news) ∧ KX (fun b => ∃ n c,lv = .slice (some ⟨b,0,none⟩) n c) wr w' ∧ ∀ b n c,v' = .slice (some ⟨b,0,none⟩) n c → (∃ n c,lv = .slice (some ⟨b,0,none⟩) n c) ∨ wr.heap.size ≤ b:=by
 rcases hM with ⟨rfl,rfl,rfl⟩ | ⟨g,cap,rfl,hg,hVl,hkc,hO⟩
 ·obtain ⟨v',w',hr,hm,hk⟩:=app_elemx t e ht z sz by8 hinf hz hby wr.heap.size wr (.slice none 0 0) 0 [] (.inl ⟨rfl,rfl,rfl⟩) news hn h1 (Nat.le_refl _) (by decide)
  refine ⟨v',w',hr,hm.mono hH,hk,fun b n c e => ?_⟩
  rcases hm with ⟨h0,-,-⟩ | ⟨g,cap,e2,hg,-⟩
  ·omega
  ·rw [e] at e2; cases e2; exact .inr hg
 ·obtain ⟨i,hi,hz2,hs,hb⟩:=info_parts hinf
  have hK : Kept wr (wr.alloc (.cells news.toArray e)):=(Kept.refl _).alloc _ _
  obtain ⟨w,hw⟩ : ∃ w,w = wr.alloc (.cells news.toArray e):=⟨_,rfl⟩
  have hws : w.heap.size = wr.heap.size + 1:=by rw [hw]; simp
  have hcell : ∀ j u,news[j]? = some u → w.cell? ((⟨wr.heap.size,0,none⟩ : Addr).add j) = some u:=fun j u hj => by
   rw [hw,Addr.add_lit,Nat.zero_add]
   rw [cell_of_row (wr.alloc (.cells news.toArray e)) wr.heap.size j news.toArray e (0,0) (heap_alloc_new wr _)]
   simpa using hj
  have hS : Src Try.prog i.size t (.slice (some ⟨wr.heap.size,0,none⟩) 1 1) 1 news w:=Src.ofSlice w ht ⟨wr.heap.size,0,none⟩ 1 1 news (by rw [hs,hn]; simp) hcell h1
  rw [← hw] at hK ⊢
  have hnl : (V ++ news).length = (k + 1) * sz:=by rw [List.length_append,hVl,hn,Nat.succ_mul]
  have hO':=hO.kept hK
  by_cases hr : k + 1 ≤ cap
  ·have hroom : V.length + news.length ≤ cap * sz:=by
    rw [hVl,hn,← Nat.succ_mul]
    exact Nat.mul_le_mul_right _ hr
   have hG:=(Grw.refl g w).setCells news V.length
   refine ⟨_,w.setCells g V.length news,fun ty => ?_,.inr ⟨g,cap,rfl,hg,hnl,hr,hO'.pushes news hroom⟩,(hK.kx _).trans ((hG.kx).mono fun b hb => by subst hb; exact ⟨_,_,rfl⟩),fun b n c e => by cases e; exact .inl ⟨_,_,rfl⟩⟩
   ·have:=run_append_room_src w t t ty e i ht hi g 0 k cap (.slice (some ⟨wr.heap.size,0,none⟩) 1 1) 1 news hS hr (fun j hj => hO'.some _ (by rw [hs,← hVl]; omega)) (fun j hj => hO'.free _)
    rw [this,hs,hVl]
    simp
  ·obtain ⟨C,hC⟩ : ∃ C,grownCap w (k + 1) cap e = C:=⟨_,rfl⟩
   have hC1 : k + 1 ≤ C:=by rw [← hC]; exact grownCap_ge _ _ _ _
   have hC2 : C ≤ maxLen:=by rw [← hC]; exact grownCap_le_maxLen _ _ _ _ (by simp [maxLen]; omega)
   have hN:=ownS_new w.drew e z sz hz (V ++ news) (k + 1) C hnl hC1 hC2
   have hKN : Kept w (w.drew.alloc (.cells ((V ++ news).toArray ++ Builtin.zeroCells z.cells (C - (k + 1))) e)):=(Kept.refl w).drew.alloc _ _
   refine ⟨_,_,fun ty => ?_,.inr ⟨w.heap.size,C,rfl,by omega,hnl,hC1,by simpa using hN⟩,(hK.trans hKN).kx _,fun b n c e => by cases e; exact .inr (by omega)⟩
   have hcl : cap < k + 1:=by omega
   have:=run_append_grow_src w t t ty e i z ht hi hz2 (some ⟨g,0,none⟩) k cap V (run_firstCells_some (P:=Try.prog) w.drew i.size k ⟨g,0,none⟩ k cap V (by rw [hs]; exact hVl) (fun j u hu => by rw [Addr.add_lit,Nat.zero_add]; exact hO'.cell j u hu)) (.slice (some ⟨wr.heap.size,0,none⟩) 1 1) 1 news hS hcl (by omega) (growslice_fits hcl (by rw [hb]; exact Nat.le_trans (Nat.mul_le_mul_left _ hby) (by omega)))
   rw [hC] at this
   rw [this]
abbrev gr16 (G : Nat) : List Value:=[.int .i64 64,.int .i64 64,.int .i64 64,.slice (some ⟨G,0,none⟩) 4096 4096,.int .i64 64,.int .i64 64,.int .i64 64,.slice (some ⟨G,0,none⟩) 4096 4096,.int .i64 64,.int .i64 64,.int .i64 64,.slice (some ⟨G,0,none⟩) 4096 4096,.int .i64 64,.int .i64 64,.int .i64 64,.slice (some ⟨G,0,none⟩) 4096 4096]
/-- So many parameters and so many lists have been made. -/
structure LimI (G H i j : Nat) (wr : World) (pv qv : Value) : Prop where
 own : Own wr G 4096 (List.replicate 4096 0)
 p : ∃ V,MS 4 54 H wr pv i V ∧ ∀ k,k < i → V[k * 4]? = some (.int .i64 64) ∧ V[k * 4 + 1]? = some (.int .i64 64) ∧ V[k * 4 + 2]? = some (.int .i64 64) ∧ V[k * 4 + 3]? = some (.slice (some ⟨G,0,none⟩) 4096 4096)
 q : ∃ V,MS 1 32 H wr qv j V ∧ ∀ k,k < j → ∃ g,V[k]? = some (.slice (some ⟨g,0,none⟩) 4 4) ∧ H ≤ g ∧ OwnS wr g 4 4 54 (gr16 G) ∧ ∀ n c,pv ≠ .slice (some ⟨g,0,none⟩) n c
theorem Own.onB {w w' : World} {g cap : Nat} {L : List Int} (h : Own w g cap L) (k : w'.heap[g]? = w.heap[g]?) : Own w' g cap L:=by
 obtain ⟨cur,h1,r⟩:=h
 exact ⟨cur,k.trans h1,r⟩
theorem LimI.kx {G H i j : Nat} {w w' : World} {pv qv : Value} {X : Nat → Prop} (h : LimI G H i j w pv qv) (k : KX X w w') (hX : ∀ b,X b → b < H ∧ b ≠ G) : LimI G H i j w' pv qv:=by
 obtain ⟨ho,⟨V,h1,h2⟩,⟨U,h3,h4⟩⟩:=h
 have ok : ∀ b,H ≤ b → b < w.heap.size → w'.heap[b]? = w.heap[b]?:=fun b hb hl => k.block b hl fun hx => by have:=(hX b hx).1; omega
 refine ⟨ho.onB (k.block G ho.lt fun hx => (hX G hx).2 rfl),⟨V,h1.on ok,h2⟩,⟨U,h3.on ok,fun x hx => ?_⟩⟩
 obtain ⟨g,g1,g2,g3,g4⟩:=h4 x hx
 exact ⟨g,g1,g2,g3.on (ok g g2 g3.lt),g4⟩
theorem MS.block {sz : Nat} {e : TypeId} {H : Nat} {w : World} {v : Value} {k : Nat} {V : List Value} (h : MS sz e H w v k V) {b n c : Nat} (ev : v = .slice (some ⟨b,0,none⟩) n c) : H ≤ b ∧ ∃ cap,OwnS w b cap sz e V:=by
 rcases h with ⟨-,-,e2⟩ | ⟨g,cap,e2,h2,-,-,h5⟩
 ·rw [ev] at e2; cases e2
 ·rw [ev] at e2; cases e2; exact ⟨h2,_,h5⟩
theorem LimI.ml {G H i j : Nat} {w : World} {pv qv : Value} (h : LimI G H i j w pv qv) : MlI w pv (List.replicate i grM):=by
 obtain ⟨ho,⟨V,h1,h2⟩,-⟩:=h
 have hs : Sl w (.slice (some ⟨G,0,none⟩) grM.L.length 4096) grM.L:=ho.sl
 have hgl : grM.L.length = 4096:=List.length_replicate
 rcases h1 with ⟨rfl,-,rfl⟩ | ⟨g,cap,rfl,-,-,hc,hO⟩
 ·exact ⟨none,0,rfl,Nat.le_refl _,fun h => absurd rfl h⟩
 ·refine ⟨some ⟨g,0,none⟩,cap,by rw [List.length_replicate],by rw [List.length_replicate]; exact hc,fun _ => ⟨g,0,rfl,fun k m hk => ?_⟩⟩
  obtain ⟨hk1,hk2⟩:=List.getElem?_eq_some_iff.1 hk
  rw [List.getElem_replicate] at hk2
  subst hk2
  rw [List.length_replicate] at hk1
  obtain ⟨a0,a1,a2,a3⟩:=h2 k hk1
  rw [Nat.zero_add]
  exact ⟨some ⟨G,0,none⟩,4096,hO.cell _ _ a0,hO.cell _ _ a1,hO.cell _ _ a2,by rw [hgl]; exact hO.cell _ _ a3,hs⟩
theorem gr16_ml {G g : Nat} {w : World} (ho : Own w G 4096 (List.replicate 4096 0)) (h : OwnS w g 4 4 54 (gr16 G)) : MlI w (.slice (some ⟨g,0,none⟩) 4 4) (List.replicate 4 grM):=by
 have hs : Sl w (.slice (some ⟨G,0,none⟩) grM.L.length 4096) grM.L:=ho.sl
 have hgl : grM.L.length = 4096:=List.length_replicate
 refine ⟨some ⟨g,0,none⟩,4,rfl,by decide,fun _ => ⟨g,0,rfl,fun k m hk => ?_⟩⟩
 obtain ⟨hk1,hk2⟩:=List.getElem?_eq_some_iff.1 hk
 rw [List.getElem_replicate] at hk2
 subst hk2
 rw [List.length_replicate] at hk1
 rw [Nat.zero_add]
 obtain rfl | rfl | rfl | rfl : k = 0 ∨ k = 1 ∨ k = 2 ∨ k = 3:=by omega
 ·exact ⟨some ⟨G,0,none⟩,4096,h.cell 0 _ rfl,h.cell 1 _ rfl,h.cell 2 _ rfl,by rw [hgl]; exact h.cell 3 _ rfl,hs⟩
 ·exact ⟨some ⟨G,0,none⟩,4096,h.cell 4 _ rfl,h.cell 5 _ rfl,h.cell 6 _ rfl,by rw [hgl]; exact h.cell 7 _ rfl,hs⟩
 ·exact ⟨some ⟨G,0,none⟩,4096,h.cell 8 _ rfl,h.cell 9 _ rfl,h.cell 10 _ rfl,by rw [hgl]; exact h.cell 11 _ rfl,hs⟩
 ·exact ⟨some ⟨G,0,none⟩,4096,h.cell 12 _ rfl,h.cell 13 _ rfl,h.cell 14 _ rfl,by rw [hgl]; exact h.cell 15 _ rfl,hs⟩
theorem LimI.ll {G H i j : Nat} {w : World} {pv qv : Value} (h : LimI G H i j w pv qv) : LlI w qv (List.replicate j (List.replicate 4 grM)):=by
 obtain ⟨ho,-,⟨V,h1,h2⟩⟩:=h
 rcases h1 with ⟨rfl,-,rfl⟩ | ⟨g,cap,rfl,-,-,hc,hO⟩
 ·exact ⟨none,0,rfl,Nat.le_refl _,fun h => absurd rfl h⟩
 ·refine ⟨some ⟨g,0,none⟩,cap,by rw [List.length_replicate],by rw [List.length_replicate]; exact hc,fun _ => ⟨g,0,rfl,fun k l hk => ?_⟩⟩
  obtain ⟨hk1,hk2⟩:=List.getElem?_eq_some_iff.1 hk
  rw [List.getElem_replicate] at hk2
  subst hk2
  rw [List.length_replicate] at hk1
  obtain ⟨g2,a0,-,a2,-⟩:=h2 k hk1
  rw [Nat.zero_add]
  exact ⟨_,hO.cell _ _ a0,gr16_ml ho a2⟩
end Go.Proofs.Ytocjfdiimapojaa
namespace Go.Proofs.Ytocjfdiimapojaa
open Go.ChangeShapes Go.WideShapes Go.ChangeAt Go.RowKit
set_option maxHeartbeats 16000000
set_option maxRecDepth 100000
set_option linter.unusedVariables false
set_option linter.unusedSimpArgs false
/-- The block of a slice from its beginning on. -/
def blk (v : Value) (b : Nat) : Prop:=∃ n c,v = .slice (some ⟨b,0,none⟩) n c
/-- From one slice to another: what lies stays,but for the first one's block; the second one's block is that one,or a new one. -/
structure PP (w w' : World) (v v' : Value) : Prop where
 kx : KX (blk v) w w'
 nb : ∀ b,blk v' b → blk v b ∨ w.heap.size ≤ b
theorem PP.refl (w : World) (v : Value) : PP w w v v:=⟨(Kept.refl w).kx _,fun b h => .inl h⟩
theorem PP.trans {a b c : World} {x y z : Value} (h : PP a b x y) (k : PP b c y z) : PP a c x z:=by
 refine ⟨⟨k.kx.os.trans h.kx.os,k.kx.tape.trans h.kx.tape,k.kx.output.trans h.kx.output,Nat.le_trans h.kx.size k.kx.size,fun i hi hn => ?_,fun p => (k.kx.frozen p).trans (h.kx.frozen p)⟩,fun i hi => ?_⟩
 ·refine (k.kx.block i (Nat.lt_of_lt_of_le hi h.kx.size) fun hb => ?_).trans (h.kx.block i hi hn)
  rcases h.nb i hb with h1 | h1
  ·exact hn h1
  ·omega
 ·rcases k.nb i hi with h1 | h1
  ·exact h.nb i h1
  ·exact .inr (Nat.le_trans h.kx.size h1)
theorem Kept.pp {a b : World} (h : Kept a b) (v : Value) : PP a b v v:=⟨h.kx _,fun b h => .inl h⟩
theorem PP.kept {a b c : World} {x y : Value} (h : PP b c x y) (k : Kept a b) (hn : ∀ i,blk x i → a.heap.size ≤ i) : Kept a c:=kept_of_kx k h.kx hn
theorem BN.blk {H : Nat} {w : World} {v : Value} {L : List Int} (h : BN H w v L) {b : Nat} (hb : blk v b) : b < w.heap.size:=by
 obtain ⟨n,c,e⟩:=hb
 rcases h with ⟨-,e2⟩ | ⟨g,C,e2,-,ho⟩
 ·rw [e] at e2; cases e2
 ·rw [e] at e2; cases e2; exact ho.lt
theorem BN.form {H : Nat} {w : World} {v : Value} {L : List Int} (h : BN H w v L) : ∃ ao c,v = .slice ao L.length c:=by
 obtain ⟨ao,c,e,-⟩:=h.rd
 exact ⟨ao,c,e⟩
theorem BN.kx {H : Nat} {w w' : World} {v : Value} {L : List Int} (h : BN H w v L) {X : Nat → Prop} (k : KX X w w') (hX : ∀ b,X b → ¬ Go.Proofs.Ytocjfdiimapojaa.blk v b) : BN H w' v L:=by
 rcases h with h | ⟨g,C,rfl,hg,ho⟩
 ·exact .inl h
 ·refine .inr ⟨g,C,rfl,hg,?_⟩
  have hb:=k.block g ho.lt fun hx => hX g hx ⟨_,_,rfl⟩
  obtain ⟨cur,h1,r⟩:=ho
  exact ⟨cur,hb.trans h1,r⟩
theorem bpp_one (w : World) (v : Value) (L : List Int) (h : BN 0 w v L) (hlen : L.length < 100000000) (x : Int) :
  ∃ v' w',(∀ ty,(Builtin.append_ #[22,22] ty #[v,.slice (some ⟨w.heap.size,0,none⟩) 1 1]).run Try.prog (w.alloc (.cells #[.int .u8 x] 5)) = .ok v' w') ∧ BN 0 w' v' (L ++ [x]) ∧ PP w w' v v':=by
 have hM : MS 1 5 0 w v L.length (L.map (Value.int .u8)):=by
  rcases h with ⟨rfl,rfl⟩ | ⟨g,C,rfl,hg,cur,h1,h2,h3,h4,h5⟩
  ·exact .inl ⟨rfl,rfl,rfl⟩
  ·have h2' : L.length ≤ C:=by simpa using h2
   exact .inr ⟨g,C,rfl,hg,by simp,h2',cur,h1,by simpa using h2',h3,by simpa using h4,h5⟩
 obtain ⟨v',w',hr,hm,hk,hnb⟩:=app_elemw 22 5 lb_under (.int .u8 0) 1 1 lb_info rfl (by decide) 0 w v L.length _ hM [.int .u8 x] rfl (fun u hu => by rw [List.mem_singleton] at hu; rw [hu]; rfl) (Nat.zero_le _) hlen
 refine ⟨v',w',hr,?_,⟨hk,fun b ⟨n,c,e⟩ => hnb b n c e⟩⟩
 rcases hm with ⟨h0,-,-⟩ | ⟨g,C,rfl,hg,h3,h4,cur,h5,h6,h7,h8,h9⟩
 ·omega
 ·refine .inr ⟨g,C,by simp,hg,cur,h5,?_,h7,by simpa using h8,?_⟩
  ·simp; omega
  ·rw [List.map_append]; exact h9
/-- A number's bytes are those of its unsigned number. -/
theorem put_byte (n : Int) (i : Nat) (hi : i < 8) : (n % 18446744073709551616) / 256 ^ i % 256 = n / 2 ^ (8 * i) % 256:=by
 obtain rfl | rfl | rfl | rfl | rfl | rfl | rfl | rfl : i = 0 ∨ i = 1 ∨ i = 2 ∨ i = 3 ∨ i = 4 ∨ i = 5 ∨ i = 6 ∨ i = 7:=by omega
 all_goals simp only [Nat.reduceMul,Nat.reducePow,Int.reducePow]
 all_goals omega
theorem put_any (v : Value) (L : List Int) (n : Int) (k : Nat) (hk : k ≤ 8) (hlen : L.length < 99990000) (w : World) (hB : BN 0 w v L) : Calls Try.prog 40 #[v,.int .i64 n,.int .i64 (k : Int)] w fun e w' => ∃ v',e = .returned v' ∧ BN 0 w' v' (L ++ le k n) ∧ PP w w' v v':=by
 obtain ⟨u0,hu0⟩ : ∃ u0,n % 18446744073709551616 = u0:=⟨_,rfl⟩
 have hw0 : IntKind.u64.wrap n = u0:=by rw [← hu0,IntKind.wrap_u64]
 have HB:=hid hB
 have HU : Hid (∀ i,i < 8 → u0 / 256 ^ i % 256 = n / 2 ^ (8 * i) % 256):=fun i hi => by rw [← hu0]; exact put_byte n i hi
 have HU0:=hid (show 0 ≤ u0 ∧ u0 < 18446744073709551616 by omega)
 have HK:=hid (show k ≤ 8 ∧ L.length < 99990000 from ⟨hk,hlen⟩)
 clear hB hu0 hk hlen
 go_enter Try.func40,Try.ntmps40
 go_wp2_with fail
 go_loopw [0,7,8] (fun lv uv iv wr => ∃ (i : Nat) (av : Value) (u : Int),lv = av ∧ i ≤ k ∧ iv = .int .i64 (i : Int) ∧ uv = .int .u64 u ∧ u = u0 / 256 ^ i ∧ BN 0 wr av (L ++ le i n) ∧ PP w wr v av) (fun _ _ iv _ => k - (intOf iv).toNat)
 case atStart => exact ⟨0,v,_,rfl,Nat.zero_le _,rfl,rfl,by simp,by rw [show le 0 n = [] from rfl,List.append_nil]; exact HB.out,PP.refl _ _⟩
 case round =>
  obtain ⟨i,av,u,hlv,hi,rfl,rfl,hu,hb,hp⟩:=hrel
  have h9:=hlv.symm
  subst h9
  clear hlv
  have HBi:=hid hb
  have HPi:=hid hp
  by_cases hik : i < k
  ·have hbd : (i : Int) < (k : Int):=by omega
   have z2 : IntKind.i64.wrap ((i : Int) + 1) = (i : Int) + 1:=by have:=HK.out; rw [wrap_i64]; omega
   obtain ⟨x,hx⟩ : ∃ x,u % 256 = x:=⟨_,rfl⟩
   have hx1 : x = n / 2 ^ (8 * i) % 256:=by rw [← hx,hu]; exact HU.out i (by have:=HK.out; omega)
   have hur : 0 ≤ u ∧ u < 18446744073709551616:=by
    have:=HU0.out
    rw [hu]
    exact ⟨Int.ediv_nonneg this.1 (Int.pow_nonneg (by decide)),Int.lt_of_le_of_lt (Int.ediv_le_self _ this.1) this.2⟩
   have hm1 : Int.tmod u 256 = x:=by rw [Int.tmod_eq_emod_of_nonneg hur.1,hx]
   have hd1 : Int.tdiv u 256 = u / 256:=Int.tdiv_eq_ediv_of_nonneg hur.1
   have hx2 : 0 ≤ x ∧ x < 256:=by omega
   have z3 : IntKind.u8.wrap x = x:=by rw [IntKind.wrap_u8]; omega
   have z4 : IntKind.u64.wrap x = x:=by rw [IntKind.wrap_u64]; omega
   have z5 : IntKind.u64.wrap (u / 256) = u / 256:=by rw [IntKind.wrap_u64]; omega
   have HUn:=hid (show u / 256 = u0 / 256 ^ (i + 1) by rw [hu,Int.pow_succ,Int.ediv_ediv_of_nonneg (Int.pow_nonneg (by decide))])
   obtain ⟨v',w',hr,hb2,hp2⟩:=bpp_one wr av _ hb (by rw [List.length_append,le_len]; have:=HK.out; omega) x
   obtain ⟨ao,c,rfl⟩:=hb.form
   have HR:=hid hr
   have HB2:=hid (show BN 0 w' v' (L ++ le (i + 1) n) by
    have : le (i + 1) n = le i n ++ [x]:=by rw [hx1]; rfl
    rw [this,← List.append_assoc]; exact hb2)
   have HP2:=hid (hp.trans hp2)
   clear hr hb2 hp2 hb hp hx hx1 hu
   go_wp2_with (first | (at_builtin; refine wpList_append_run rfl _ _ _ rfl _ _ rfl rfl _ _ (HR.out _) ?_; clear HR))
   go_roundw
   case rel => exact ⟨i + 1,v',_,rfl,by omega,by go_num,rfl,HUn.out,HB2.out,HP2.out⟩
   case measure => simp [intOf]; omega
  ·obtain rfl : i = k:=by omega
   clear hb hp
   go_wp2_with fail
   go_ret
   exact ⟨_,rfl,HBi.out,HPi.out⟩
end Go.Proofs.Ytocjfdiimapojaa
