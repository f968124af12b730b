/- Lists of matrices that are lent: the values,how they lie,what can be read of them. The laws of chapter 23: a list of matrices is lent. -/
import Derived.Test.YtocjfdiimapojaaXA
import Derived.Test.YtocjfdiimapojaaMI
namespace Go.Proofs.Ytocjfdiimapojaa
open Go.ChangeShapes Go.WideShapes Go.ChangeAt Go.RowKit
set_option maxHeartbeats 16000000
set_option maxRecDepth 100000
set_option linter.unusedVariables false
set_option linter.unusedSimpArgs false
/-- A lent matrix's four cells. -/
abbrev mcN (m : Mat) (g C : Nat) : List Value:=[.int .i64 m.r,.int .i64 m.c,.int .i64 m.n,.slice (some ⟨g,0,none⟩) m.L.length C]
/-- The four cells of a matrix of which the rows alone are told. -/
abbrev mk4 (x : Int) : List Value:=[.int .i64 x,.int .i64 0,.int .i64 0,.slice none 0 0]
def MsN (H : Nat) (w : World) : List Mat → List Value → Prop
 | [],V => V = []
 | m :: l,V => ∃ g C V',V = mcN m g C ++ V' ∧ H ≤ g ∧ Own w g C (m.L ++ [-77]) ∧ MsN H w l V'
theorem MsN.on {H : Nat} {w w' : World} : ∀ {l : List Mat} {V : List Value},MsN H w l V → (∀ b cap L,H ≤ b → Own w b cap L → w'.heap[b]? = w.heap[b]?) → MsN H w' l V
 | [],_,h,_ => h
 | m :: l,_,⟨g,C,V',e,hg,ho,h⟩,k => ⟨g,C,V',e,hg,by
   have kb:=k g _ _ hg ho
   obtain ⟨cur,h1,r⟩:=ho
   exact ⟨cur,kb.trans h1,r⟩,MsN.on h k⟩
theorem MsN.snoc {H : Nat} {w : World} {m : Mat} {g C : Nat} (hg : H ≤ g) (ho : Own w g C (m.L ++ [-77])) : ∀ {l : List Mat} {V : List Value},MsN H w l V → MsN H w (l ++ [m]) (V ++ mcN m g C)
 | [],_,h => by cases h; exact ⟨g,C,[],rfl,hg,ho,rfl⟩
 | x :: l,_,⟨g',C',V',e,hg',ho',h⟩ => ⟨g',C',V' ++ mcN m g C,by rw [e,List.append_assoc],hg',ho',MsN.snoc hg ho h⟩
theorem MsN.mono {H H' : Nat} {w : World} (hH : H' ≤ H) : ∀ {l : List Mat} {V : List Value},MsN H w l V → MsN H' w l V
 | [],_,h => h
 | m :: l,_,⟨g,C,V',e,hg,ho,h⟩ => ⟨g,C,V',e,Nat.le_trans hH hg,ho,MsN.mono hH h⟩
theorem MsN.len {H : Nat} {w : World} : ∀ {l : List Mat} {V : List Value},MsN H w l V → V.length = l.length * 4
 | [],_,h => by cases h; rfl
 | m :: l,_,⟨g,C,V',e,hg,ho,h⟩ => by rw [e,List.length_append,MsN.len h]; show 4 + l.length * 4 = (l.length + 1) * 4; omega
theorem MsN.get {H : Nat} {w : World} : ∀ {l : List Mat} {V : List Value},MsN H w l V → ∀ (i : Nat) (m : Mat),l[i]? = some m → ∃ g C,H ≤ g ∧ Own w g C (m.L ++ [-77]) ∧ V[i * 4]? = some (.int .i64 m.r) ∧ V[i * 4 + 1]? = some (.int .i64 m.c) ∧ V[i * 4 + 2]? = some (.int .i64 m.n) ∧ V[i * 4 + 3]? = some (.slice (some ⟨g,0,none⟩) m.L.length C)
 | [],_,_,i,m,hi => by simp at hi
 | x :: l,_,⟨g,C,V',e,hg,ho,h⟩,0,m,hi => by
  cases hi
  subst e
  exact ⟨g,C,hg,ho,rfl,rfl,rfl,rfl⟩
 | x :: l,_,⟨g,C,V',e,hg,ho,h⟩,i + 1,m,hi => by
  obtain ⟨g2,C2,hg2,ho2,h0,h1,h2,h3⟩:=MsN.get h i m (by simpa using hi)
  subst e
  refine ⟨g2,C2,hg2,ho2,?_,?_,?_,?_⟩
  ·rw [List.getElem?_append_right (by show 4 ≤ _; omega),show (i + 1) * 4 - (mcN x g C).length = i * 4 by show (i + 1) * 4 - 4 = _; omega]; exact h0
  ·rw [List.getElem?_append_right (by show 4 ≤ _; omega),show (i + 1) * 4 + 1 - (mcN x g C).length = i * 4 + 1 by show (i + 1) * 4 + 1 - 4 = _; omega]; exact h1
  ·rw [List.getElem?_append_right (by show 4 ≤ _; omega),show (i + 1) * 4 + 2 - (mcN x g C).length = i * 4 + 2 by show (i + 1) * 4 + 2 - 4 = _; omega]; exact h2
  ·rw [List.getElem?_append_right (by show 4 ≤ _; omega),show (i + 1) * 4 + 3 - (mcN x g C).length = i * 4 + 3 by show (i + 1) * 4 + 3 - 4 = _; omega]; exact h3
/-- Bits with a mark behind them,as the list that was lent. -/
theorem own_mark {w : World} {g C : Nat} {L : List Int} {x : Int} (h : Own w g C (L ++ [x])) : Sl w (.slice (some ⟨g,0,none⟩) L.length C) L:=by
 have:=h.slTake L.length (by simp)
 rw [List.take_append_of_le_length (Nat.le_refl _),List.take_length] at this
 exact this
/-- A list while it is being lent. -/
def LmN (H : Nat) (w : World) (v : Value) (l : List Mat) : Prop:=∃ V,MS 4 54 H w v l.length V ∧ MsN H w l V
/-- A list that is lent,its mark behind it. -/
def LnV (H : Nat) (w : World) (v : Value) (l : List Mat) : Prop:=∃ G C V,v = .slice (some ⟨G,0,none⟩) l.length C ∧ H ≤ G ∧ l.length + 1 ≤ C ∧ MsN H w l V ∧ OwnS w G C 4 54 (V ++ mk4 (-77))
theorem ln_app (H : Nat) (wr : World) (lv : Value) (l : List Mat) (h : LmN H wr lv l) (hH : H ≤ wr.heap.size) (hlen : l.length < 10000000) (vs : List Value) (hn : vs.length = 4) (h1 : ∀ u ∈ vs,u.oneCell' = true) :
  ∃ v' w',(∀ ty,(Builtin.append_ #[32,32] ty #[lv,.slice (some ⟨wr.heap.size,0,none⟩) 1 1]).run Try.prog (wr.alloc (.cells vs.toArray 54)) = .ok v' w') ∧ (∃ V,MS 4 54 H w' v' (l.length + 1) (V ++ vs) ∧ MsN H w' l V) ∧ KX (fun b => H ≤ b) wr w' ∧ ∀ b cap L,H ≤ b → Own wr b cap L → w'.heap[b]? = wr.heap[b]?:=by
 obtain ⟨V,hM,hV⟩:=h
 obtain ⟨v',w',hr,hm,hk⟩:=app_elemx 32 54 mat_under (.agg #[.int .i64 0,.int .i64 0,.int .i64 0,.slice none 0 0]) 4 48 mat_info rfl (by decide) H wr lv l.length V hM vs hn h1 hH hlen
 have hrow : ∀ b c L,(∃ n c,lv = .slice (some ⟨b,0,none⟩) n c) → ¬ Own wr b c L:=by
  rintro b c L ⟨n,c',e⟩
  rcases hM with ⟨-,-,e2⟩ | ⟨g2,cap,e2,-,-,-,h5⟩
  ·rw [e] at e2; cases e2
  ·rw [e] at e2; cases e2; exact h5.not_own c L
 have hkeep : ∀ b c L,H ≤ b → Own wr b c L → w'.heap[b]? = wr.heap[b]?:=fun b c L hb ho => hk.block b ho.lt fun hx => hrow b c L hx ho
 refine ⟨v',w',hr,⟨V,hm,hV.on hkeep⟩,hk.mono ?_,hkeep⟩
 rintro b ⟨n,c,e⟩
 rcases hM with ⟨-,-,e2⟩ | ⟨g2,cap,e2,hg2,-⟩
 ·rw [e] at e2; cases e2
 ·rw [e] at e2; cases e2; exact hg2
/-- One more lent matrix. -/
theorem ln_push (H : Nat) (wr : World) (lv : Value) (l : List Mat) (h : LmN H wr lv l) (m : Mat) (g C : Nat) (hg : H ≤ g) (ho : Own wr g C (m.L ++ [-77])) (hH : H ≤ wr.heap.size) (hlen : l.length < 10000000) :
  ∃ v' w',(∀ ty,(Builtin.append_ #[32,32] ty #[lv,.slice (some ⟨wr.heap.size,0,none⟩) 1 1]).run Try.prog (wr.alloc (.cells #[.int .i64 m.r,.int .i64 m.c,.int .i64 m.n,.slice (some ⟨g,0,none⟩) m.L.length C] 54)) = .ok v' w') ∧ LmN H w' v' (l ++ [m]) ∧ KX (fun b => H ≤ b) wr w':=by
 obtain ⟨v',w',hr,⟨V,hm,hV⟩,hk,hkeep⟩:=ln_app H wr lv l h hH hlen (mcN m g C) rfl (fun u hu => by
  simp only [mcN,List.mem_cons,List.not_mem_nil,or_false] at hu
  rcases hu with rfl | rfl | rfl | rfl <;> rfl)
 refine ⟨v',w',hr,⟨V ++ mcN m g C,by rw [List.length_append]; exact hm,?_⟩,hk⟩
 have kb:=hkeep g _ _ hg ho
 obtain ⟨cur,h1,r⟩:=ho
 exact hV.snoc hg ⟨cur,kb.trans h1,r⟩
/-- The mark behind the last one. -/
theorem ln_end (H : Nat) (wr : World) (lv : Value) (l : List Mat) (h : LmN H wr lv l) (hH : H ≤ wr.heap.size) (hlen : l.length < 10000000) :
  ∃ G C w',(∀ ty,(Builtin.append_ #[32,32] ty #[lv,.slice (some ⟨wr.heap.size,0,none⟩) 1 1]).run Try.prog (wr.alloc (.cells #[.int .i64 (-77),.int .i64 0,.int .i64 0,.slice none 0 0] 54)) = .ok (.slice (some ⟨G,0,none⟩) (l.length + 1) C) w') ∧ l.length + 1 ≤ C ∧ LnV H w' (.slice (some ⟨G,0,none⟩) l.length C) l ∧ KX (fun b => H ≤ b) wr w':=by
 obtain ⟨v',w',hr,⟨V,hm,hV⟩,hk,hkeep⟩:=ln_app H wr lv l h hH hlen (mk4 (-77)) rfl (fun u hu => by
  simp only [mk4,List.mem_cons,List.not_mem_nil,or_false] at hu
  rcases hu with rfl | rfl | rfl | rfl <;> rfl)
 rcases hm with ⟨h0,-,-⟩ | ⟨G,C,rfl,hG,-,hC,hO⟩
 ·omega
 ·exact ⟨G,C,w',hr,hC,⟨G,C,V,rfl,hG,hC,hV,hO⟩,hk⟩
theorem LnV.ml {H : Nat} {w : World} {v : Value} {l : List Mat} (h : LnV H w v l) : MlI w v l:=by
 obtain ⟨G,C,V,rfl,hG,hC,hV,hO⟩:=h
 refine ⟨_,C,rfl,by omega,fun _ => ⟨G,0,rfl,fun i m hi => ?_⟩⟩
 obtain ⟨b,C2,-,ho,h0,h1,h2,h3⟩:=hV.get i m hi
 have hl:=hV.len
 have hil:=(List.getElem?_eq_some_iff.1 hi).1
 have ap : ∀ j,j < 4 → (V ++ mk4 (-77))[i * 4 + j]? = V[i * 4 + j]?:=fun j hj => List.getElem?_append_left (by omega)
 rw [Nat.zero_add]
 exact ⟨_,_,hO.cell _ _ ((ap 0 (by omega)).trans h0),hO.cell _ _ ((ap 1 (by omega)).trans h1),hO.cell _ _ ((ap 2 (by omega)).trans h2),hO.cell _ _ ((ap 3 (by omega)).trans h3),own_mark ho⟩
theorem LnV.on {H : Nat} {w w' : World} {v : Value} {l : List Mat} (h : LnV H w v l) (k : ∀ b cur e,H ≤ b → (e = 3 ∨ e = 54) → w.heap[b]? = some (.cells cur e (0,0)) → w'.heap[b]? = w.heap[b]?) : LnV H w' v l:=by
 obtain ⟨G,C,V,rfl,hG,hC,hV,hO⟩:=h
 refine ⟨G,C,V,rfl,hG,hC,hV.on fun b c L hb ho => ?_,hO.on ?_⟩
 ·obtain ⟨cur,hg,-⟩:=ho
  exact k b cur 3 hb (.inl rfl) hg
 ·obtain ⟨cur,hg,-⟩:=hO
  exact k G cur _ hG (.inr rfl) hg
theorem LnV.mono {H H' : Nat} {w : World} {v : Value} {l : List Mat} (h : LnV H w v l) (hH : H' ≤ H) : LnV H' w v l:=by
 obtain ⟨G,C,V,e,hG,hC,hV,hO⟩:=h
 exact ⟨G,C,V,e,by omega,hC,hV.mono hH,hO⟩
theorem LnV.kx {H : Nat} {w w' : World} {v : Value} {l : List Mat} {X : Nat → Prop} (h : LnV H w v l) (k : KX X w w') (hX : ∀ b,X b → b < H) : LnV H w' v l :=
 h.on fun b cur e hb _ hg => k.block b (lt_of_block hg) fun hx => by have:=hX b hx; omega
theorem LnV.form {H : Nat} {w : World} {v : Value} {l : List Mat} (h : LnV H w v l) : ∃ G C,v = .slice (some ⟨G,0,none⟩) l.length C ∧ l.length + 1 ≤ C:=by
 obtain ⟨G,C,V,rfl,hG,hC,hV,hO⟩:=h
 exact ⟨G,C,rfl,hC⟩
def SnV (H : Nat) (w : World) : List (List Mat) → List Value → Prop
 | [],V => V = []
 | l :: Q,V => ∃ v V',V = v :: V' ∧ LnV H w v l ∧ SnV H w Q V'
theorem SnV.on {H : Nat} {w w' : World} (k : ∀ b cur e,H ≤ b → (e = 3 ∨ e = 54) → w.heap[b]? = some (.cells cur e (0,0)) → w'.heap[b]? = w.heap[b]?) : ∀ {Q : List (List Mat)} {V : List Value},SnV H w Q V → SnV H w' Q V
 | [],_,h => h
 | l :: Q,_,⟨v,V',e,h,h2⟩ => ⟨v,V',e,h.on k,SnV.on k h2⟩
theorem SnV.snoc {H : Nat} {w : World} {l : List Mat} {v : Value} (hl : LnV H w v l) : ∀ {Q : List (List Mat)} {V : List Value},SnV H w Q V → SnV H w (Q ++ [l]) (V ++ [v])
 | [],_,h => by cases h; exact ⟨v,[],rfl,hl,rfl⟩
 | x :: Q,_,⟨u,V',e,h,h2⟩ => ⟨u,V' ++ [v],by rw [e]; rfl,h,SnV.snoc hl h2⟩
theorem SnV.len {H : Nat} {w : World} : ∀ {Q : List (List Mat)} {V : List Value},SnV H w Q V → V.length = Q.length
 | [],_,h => by cases h; rfl
 | x :: Q,_,⟨u,V',e,h,h2⟩ => by rw [e,List.length_cons,SnV.len h2,List.length_cons]
theorem SnV.get {H : Nat} {w : World} : ∀ {Q : List (List Mat)} {V : List Value},SnV H w Q V → ∀ (i : Nat) (l : List Mat),Q[i]? = some l → ∃ v,V[i]? = some v ∧ LnV H w v l
 | [],_,_,i,m,hi => by simp at hi
 | x :: l,_,⟨v,V',e,h1,h⟩,0,m,hi => by
  cases hi
  subst e
  exact ⟨v,rfl,h1⟩
 | x :: l,_,⟨v,V',e,h1,h⟩,i + 1,m,hi => by
  obtain ⟨u,h2,h3⟩:=SnV.get h i m (by simpa using hi)
  subst e
  exact ⟨u,by simpa using h2,h3⟩
/-- A list of lists while it is being lent. -/
def QmN (H : Nat) (w : World) (v : Value) (Q : List (List Mat)) : Prop:=∃ V,MS 1 32 H w v Q.length V ∧ SnV H w Q V
/-- A list of lists that is lent; behind it a list of one. -/
def LnQ (H : Nat) (w : World) (v : Value) (Q : List (List Mat)) : Prop:=∃ G C V K,v = .slice (some ⟨G,0,none⟩) Q.length C ∧ H ≤ G ∧ Q.length + 1 ≤ C ∧ SnV H w Q V ∧ OwnS w G C 1 32 (V ++ [.slice (some ⟨K,0,none⟩) 1 1]) ∧ H ≤ K ∧ OwnS w K 1 4 54 (mk4 (-78))
theorem qn_app (H : Nat) (wr : World) (qv : Value) (Q : List (List Mat)) (h : QmN H wr qv Q) (lv : Value) (h1 : lv.oneCell' = true) (hH : H ≤ wr.heap.size) (hlen : Q.length < 10000000) :
  ∃ v' w',(∀ ty,(Builtin.append_ #[33,33] ty #[qv,.slice (some ⟨wr.heap.size,0,none⟩) 1 1]).run Try.prog (wr.alloc (.cells #[lv] 32)) = .ok v' w') ∧ (∃ V,MS 1 32 H w' v' (Q.length + 1) (V ++ [lv]) ∧ SnV H w' Q V) ∧ KX (fun b => H ≤ b) wr w' ∧ ∀ (b : Nat) (cur : Array Value) (e : TypeId),(e = 3 ∨ e = 54) → wr.heap[b]? = some (.cells cur e (0,0)) → w'.heap[b]? = wr.heap[b]?:=by
 obtain ⟨V,hM,hV⟩:=h
 obtain ⟨v',w',hr,hm,hk⟩:=app_elemx 33 32 lm_under (.slice none 0 0) 1 24 lm_info rfl (by decide) H wr qv Q.length V hM [lv] rfl (fun u hu => by
  rw [List.mem_singleton] at hu
  rw [hu]
  exact h1) hH hlen
 have hkeep : ∀ (b : Nat) (cur : Array Value) (e : TypeId),(e = 3 ∨ e = 54) → wr.heap[b]? = some (.cells cur e (0,0)) → w'.heap[b]? = wr.heap[b]?:=fun b cur e he hg => hk.block b (lt_of_block hg) fun ⟨n,c',e1⟩ => by
  rcases hM with ⟨-,-,e2⟩ | ⟨g2,cap,e2,-,-,-,cur2,hg2,-⟩
  ·rw [e1] at e2; cases e2
  ·rw [e1] at e2
   cases e2
   rw [hg] at hg2
   simp at hg2
   rcases he with rfl | rfl <;> simp at hg2
 refine ⟨v',w',hr,⟨V,hm,hV.on fun b cur e _ => hkeep b cur e⟩,hk.mono ?_,hkeep⟩
 rintro b ⟨n,c,e⟩
 rcases hM with ⟨-,-,e2⟩ | ⟨g2,cap,e2,hg2,-⟩
 ·rw [e] at e2; cases e2
 ·rw [e] at e2; cases e2; exact hg2
/-- One more lent list. -/
theorem qn_push (H : Nat) (wr : World) (qv : Value) (Q : List (List Mat)) (h : QmN H wr qv Q) (lv : Value) (l : List Mat) (hl : LnV H wr lv l) (hH : H ≤ wr.heap.size) (hlen : Q.length < 10000000) :
  ∃ v' w',(∀ ty,(Builtin.append_ #[33,33] ty #[qv,.slice (some ⟨wr.heap.size,0,none⟩) 1 1]).run Try.prog (wr.alloc (.cells #[lv] 32)) = .ok v' w') ∧ QmN H w' v' (Q ++ [l]) ∧ KX (fun b => H ≤ b) wr w' ∧ ∀ v0 l0,LnV H wr v0 l0 → LnV H w' v0 l0:=by
 obtain ⟨G,C,e,-⟩:=hl.form
 obtain ⟨v',w',hr,⟨V,hm,hV⟩,hk,hkeep⟩:=qn_app H wr qv Q h lv (by rw [e]; rfl) hH hlen
 have hon : ∀ v0 l0,LnV H wr v0 l0 → LnV H w' v0 l0:=fun v0 l0 h0 => h0.on fun b cur e _ => hkeep b cur e
 exact ⟨v',w',hr,⟨V ++ [lv],by rw [List.length_append]; exact hm,hV.snoc (hon _ _ hl)⟩,hk,hon⟩
/-- The mark behind the last list. -/
theorem qn_end (H : Nat) (wr : World) (qv : Value) (Q : List (List Mat)) (h : QmN H wr qv Q) (hH : H ≤ wr.heap.size) (hlen : Q.length < 10000000) (K : Nat) (hK : H ≤ K) (hO : OwnS wr K 1 4 54 (mk4 (-78))) :
  ∃ G C w',(∀ ty,(Builtin.append_ #[33,33] ty #[qv,.slice (some ⟨wr.heap.size,0,none⟩) 1 1]).run Try.prog (wr.alloc (.cells #[.slice (some ⟨K,0,none⟩) 1 1] 32)) = .ok (.slice (some ⟨G,0,none⟩) (Q.length + 1) C) w') ∧ Q.length + 1 ≤ C ∧ LnQ H w' (.slice (some ⟨G,0,none⟩) Q.length C) Q ∧ KX (fun b => H ≤ b) wr w' ∧ ∀ v0 l0,LnV H wr v0 l0 → LnV H w' v0 l0:=by
 obtain ⟨v',w',hr,⟨V,hm,hV⟩,hk,hkeep⟩:=qn_app H wr qv Q h (.slice (some ⟨K,0,none⟩) 1 1) rfl hH hlen
 have hon : ∀ v0 l0,LnV H wr v0 l0 → LnV H w' v0 l0:=fun v0 l0 h0 => h0.on fun b cur e _ => hkeep b cur e
 rcases hm with ⟨h0,-,-⟩ | ⟨G,C,rfl,hG,-,hC,hO2⟩
 ·omega
 ·refine ⟨G,C,w',hr,hC,⟨G,C,V,K,rfl,hG,hC,hV,hO2,hK,hO.on ?_⟩,hk,hon⟩
  obtain ⟨cur,hg,-⟩:=hO
  exact hkeep K cur _ (.inr rfl) hg
theorem LnQ.ll {H : Nat} {w : World} {v : Value} {Q : List (List Mat)} (h : LnQ H w v Q) : LlI w v Q:=by
 obtain ⟨G,C,V,K,rfl,hG,hC,hV,hO,-⟩:=h
 refine ⟨_,C,rfl,by omega,fun _ => ⟨G,0,rfl,fun i l hi => ?_⟩⟩
 obtain ⟨u,h1,h2⟩:=hV.get i l hi
 have hil:=(List.getElem?_eq_some_iff.1 h1).1
 rw [Nat.zero_add]
 exact ⟨u,hO.cell _ _ ((List.getElem?_append_left hil).trans h1),h2.ml⟩
theorem LnQ.on {H : Nat} {w w' : World} {v : Value} {Q : List (List Mat)} (h : LnQ H w v Q) (k : ∀ b,H ≤ b → b < w.heap.size → w'.heap[b]? = w.heap[b]?) : LnQ H w' v Q:=by
 obtain ⟨G,C,V,K,rfl,hG,hC,hV,hO,hK,hO2⟩:=h
 exact ⟨G,C,V,K,rfl,hG,hC,hV.on fun b cur e hb _ hg => k b hb (lt_of_block hg),hO.on (k G hG hO.lt),hK,hO2.on (k K hK hO2.lt)⟩
theorem LnQ.kx {H : Nat} {w w' : World} {v : Value} {Q : List (List Mat)} {X : Nat → Prop} (h : LnQ H w v Q) (k : KX X w w') (hX : ∀ b,X b → b < H) : LnQ H w' v Q :=
 h.on fun b hb hl => k.block b hl fun hx => by have:=hX b hx; omega
theorem SnV.mono {H H' : Nat} {w : World} (hH : H' ≤ H) : ∀ {Q : List (List Mat)} {V : List Value},SnV H w Q V → SnV H' w Q V
 | [],_,h => h
 | l :: Q,_,⟨v,V',e,h,h2⟩ => ⟨v,V',e,h.mono hH,SnV.mono hH h2⟩
theorem LnQ.mono {H H' : Nat} {w : World} {v : Value} {Q : List (List Mat)} (h : LnQ H w v Q) (hH : H' ≤ H) : LnQ H' w v Q:=by
 obtain ⟨G,C,V,K,e,hG,hC,hV,hO,hK,hO2⟩:=h
 exact ⟨G,C,V,K,e,by omega,hC,hV.mono hH,hO,by omega,hO2⟩
theorem LnQ.form {H : Nat} {w : World} {v : Value} {l : List (List Mat)} (h : LnQ H w v l) : ∃ G C,v = .slice (some ⟨G,0,none⟩) l.length C ∧ l.length + 1 ≤ C:=by
 obtain ⟨G,C,V,K,rfl,hG,hC,-⟩:=h
 exact ⟨G,C,rfl,hC⟩
/-- A state that is lent. -/
def SnL (H : Nat) (w : World) (v : Value) (s : Sta) : Prop:=∃ pv qv,v = .agg #[.int .i64 s.a,.int .i64 s.b,.int .i64 s.d,pv,qv,.int .i64 s.lo,.int .i64 s.ra] ∧ LnV H w pv s.P ∧ LnQ H w qv s.Q
theorem SnL.st {H : Nat} {w : World} {v : Value} {s : Sta} (h : SnL H w v s) : StI w v s:=by
 obtain ⟨pv,qv,e,h1,h2⟩:=h
 exact ⟨pv,qv,e,h1.ml,h2.ll⟩
end Go.Proofs.Ytocjfdiimapojaa

namespace Go.Proofs.Ytocjfdiimapojaa
open Go.ChangeShapes Go.WideShapes Go.ChangeAt Go.RowKit
set_option maxHeartbeats 16000000
set_option maxRecDepth 100000
set_option linter.unusedVariables false
set_option linter.unusedSimpArgs false
theorem lentList_any (v : Value) (l : List Mat) (hlen : l.length < 1000000) (hml : ∀ (i : Nat) (m : Mat),l[i]? = some m → m.L.length < 1000000) (w : World) (hL : MlI w v l) : Calls Try.prog 38 #[v] w fun e w' => ∃ lv,e = .returned lv ∧ LnV w.heap.size w' lv l ∧ Kept w w':=by
 obtain ⟨ao,cap,rfl,hlc,hr⟩:=hL
 have HR : Hid (∀ u,Kept w u → ∀ i m,l[i]? = some m → ∃ B off a cp,ao = some ⟨B,off,none⟩ ∧ MC u B (off + i * 4) a cp m):=fun u ku i m hi => by
  obtain ⟨B,off,e,h⟩:=hr (by intro e; rw [e] at hi; simp at hi)
  obtain ⟨a,cp,hm⟩:=h i m hi
  exact ⟨B,off,a,cp,e,hm.kept ku⟩
 obtain ⟨n,hn⟩ : ∃ n,l.length = n:=⟨_,rfl⟩
 obtain ⟨H,hH⟩ : ∃ H,w.heap.size = H:=⟨_,rfl⟩
 rw [hn] at hlen hlc ⊢
 have HN:=hid hn
 have HML:=hid hml
 have HLC:=hid (show n ≤ cap ∧ n < 1000000 ∧ w.heap.size = H from ⟨hlc,hlen,hH⟩)
 rw [hH]
 clear hn hr hlc hlen hml hH
 go_enter Try.func38,Try.ntmps38
 go_wp2_with fail
 go_loopw [3,4] (fun lv iv wr => ∃ (i : Nat) (av : Value),lv = av ∧ i ≤ n ∧ iv = .int .i64 (i : Int) ∧ Kept w wr ∧ LmN H wr av (l.take i)) (fun _ iv _ => n - (intOf iv).toNat)
 case atStart => exact ⟨0,_,rfl,Nat.zero_le _,rfl,Kept.refl w,[],.inl ⟨rfl,rfl,rfl⟩,rfl⟩
 case round =>
  obtain ⟨i,av,hlv,hi,rfl,kr,hm⟩:=hrel
  have h9:=hlv.symm
  subst h9
  clear hlv
  have HKr:=hid kr
  have HLm:=hid hm
  have hsz : H ≤ wr.heap.size:=by have:=kr.below.size; have:=HLC.out.2.2; omega
  have HSz:=hid hsz
  clear hm hsz
  by_cases hin : i < n
  ·obtain ⟨m,hm⟩ : ∃ m,l[i]? = some m:=⟨_,List.getElem?_eq_getElem (by rw [HN.out]; exact hin)⟩
   obtain ⟨B,off,a,cp,rfl,mc⟩:=HR.out wr kr i m hm
   have hbd : (0 : Int) ≤ (i : Int) ∧ (i : Int) < (n : Int):=by omega
   have hbd2 : (i : Int) < (n : Int):=by omega
   have z2 : IntKind.i64.wrap ((i : Int) + 1) = (i : Int) + 1:=by have:=HLC.out; rw [wrap_i64]; omega
   have htk : l.take (i + 1) = l.take i ++ [m]:=by
    obtain ⟨h1,h2⟩:=List.getElem?_eq_some_iff.1 hm
    rw [List.take_succ_eq_append_getElem h1,h2]
   have HTk:=hid htk
   have htl : (l.take i).length = i:=by rw [List.length_take,HN.out]; omega
   have HTl:=hid htl
   have hLe:=hid (lentM_any m.r m.c m.n m.L (HML.out i m hm) a cp wr mc.sl)
   obtain ⟨c0,c1,c2,c3,sl⟩:=mc
   have HII:=hid (show i < n ∧ True from ⟨hin,trivial⟩)
   clear hm sl htk htl kr HR HML
   obtain ⟨r,c,nn,L⟩:=m
   dsimp only at c0 c1 c2 c3 hLe
   go_wp2_with fail
   go_at_call 57
   refine hLe.out.mono ?_
   rintro e w5 ⟨g,C,rfl,hg,hO,k5⟩
   have hs5:=k5.below.size
   obtain ⟨v',w6,hrun,hM6,k6⟩:=ln_push H w5 _ (l.take i) (by
    obtain ⟨V,h1,h2⟩:=HLm.out
    exact ⟨V,h1.kept k5,h2.on fun b cp L hb ho => k5.below.block b ho.lt⟩) ⟨r,c,nn,L⟩ g C (by have:=HSz.out; omega) hO (by have:=HSz.out; omega) (by rw [HTl.out]; have:=HLC.out; omega)
   dsimp only at hrun
   have HRun:=hid hrun
   have HM6:=hid hM6
   have K6:=hid (kept_of_kx (HKr.out.trans k5) k6 (fun b hb => by have:=HLC.out.2.2; omega))
   clear hrun hM6 k6 k5 hO hg hs5 c0 c1 c2 c3 hLe HLm
   generalize L.length = ll at *
   go_wp2_with (first | (at_builtin; refine wpList_append_run rfl _ _ _ rfl _ _ rfl rfl _ _ (HRun.out _) ?_; clear HRun))
   go_roundw
   case rel => exact ⟨i + 1,_,rfl,by omega,by go_num,K6.out,by rw [HTk.out]; exact HM6.out⟩
   case measure => simp [intOf]; omega
  ·obtain rfl : i = n:=by omega
   have htl : l.take i = l:=List.take_of_length_le (by rw [HN.out]; exact Nat.le_refl _)
   have hm:=HLm.out
   rw [htl] at hm
   obtain ⟨G,C,w6,hrun,hC,hV,k6⟩:=ln_end H wr _ l hm HSz.out (by rw [HN.out]; have:=HLC.out; omega)
   rw [HN.out] at hrun hC hV
   have hc1 : i ≤ C:=by omega
   have hc2 : (i : Int) ≤ (C : Int):=by omega
   have HRun:=hid hrun
   have HV:=hid hV
   have K6:=hid (kept_of_kx HKr.out k6 (fun b hb => by have:=HLC.out.2.2; omega))
   clear hrun hV k6 hm kr htl
   go_wp2_with (first | (at_builtin; refine wpList_append_run rfl _ _ _ rfl _ _ rfl rfl _ _ (HRun.out _) ?_; clear HRun))
   go_ret
   exact ⟨_,rfl,HV.out,K6.out⟩
end Go.Proofs.Ytocjfdiimapojaa
