/- Package state: lists of lists of matrices; the mark; a block whose cells are listed. -/
import Derived.Test.YtocjfdiimapojaaVI
namespace Go.Proofs.Ytocjfdiimapojaa
open Go.ChangeShapes Go.WideShapes Go.ChangeAt Go.RowKit
set_option maxHeartbeats 16000000
set_option maxRecDepth 100000
set_option linter.unusedVariables false
set_option linter.unusedSimpArgs false
theorem lm_under : Try.prog.underlying 33 = some (.slice 32):=by kernel_rfl
theorem lm_info : (Try.prog.info? 32).map (fun i => (i.zero,i.size,i.bytes)) = some (some (.slice none 0 0),1,24):=by kernel_rfl
theorem LsE.on {H E E' : Nat} {w w' : World} {v : Value} {l : List Mat} (h : LsE H E w v l) (hE : E ≤ E') (k : ∀ b cur e,H ≤ b → (e = 3 ∨ e = 54) → w.heap[b]? = some (.cells cur e (0,0)) → w'.heap[b]? = w.heap[b]?) : LsE H E' w' v l:=by
 obtain ⟨⟨V,h1,h2⟩,h3,h4⟩:=h
 refine ⟨⟨V,?_,h2.on hE fun b c L hb ho => ?_⟩,h3,fun g n c e => Nat.lt_of_lt_of_le (h4 g n c e) hE⟩
 ·rcases h1 with h | ⟨g,cap,a1,a2,a3,a4,a5⟩
  ·exact .inl h
  ·refine .inr ⟨g,cap,a1,a2,a3,a4,a5.on ?_⟩
   obtain ⟨cur,hg,-⟩:=a5
   exact k g cur _ a2 (.inr rfl) hg
 ·obtain ⟨cur,hg,-⟩:=ho
  exact k b cur 3 hb (.inl rfl) hg
theorem LsE.mono {H H' E : Nat} {w : World} {v : Value} {l : List Mat} (h : LsE H E w v l) (hH : H' ≤ H) : LsE H' E w v l:=by
 obtain ⟨⟨V,h1,h2⟩,h3⟩:=h
 exact ⟨⟨V,h1.mono hH,h2.mono hH⟩,h3⟩
theorem LsE.up {H E E' : Nat} {w : World} {v : Value} {l : List Mat} (h : LsE H E w v l) (hE : E ≤ E') : LsE H E' w v l:=h.on1 hE fun _ _ _ => rfl
/-- Lists one behind the other,from H on and below E. -/
def SsV (E : Nat) (w : World) : Nat → List (List Mat) → List Value → Prop
 | _,[],V => V = []
 | H,l :: Q,V => ∃ v V' F,V = v :: V' ∧ H ≤ F ∧ F ≤ E ∧ LsE H F w v l ∧ SsV E w F Q V'
theorem SsV.on {E E' : Nat} {w w' : World} (hE : E ≤ E') : ∀ {H : Nat} {Q : List (List Mat)} {V : List Value},(∀ b cur e,H ≤ b → (e = 3 ∨ e = 54) → w.heap[b]? = some (.cells cur e (0,0)) → w'.heap[b]? = w.heap[b]?) → SsV E w H Q V → SsV E' w' H Q V
 | _,[],_,_,h => h
 | _,l :: Q,_,k,⟨v,V',F,e,hF,hF2,h,h2⟩ => ⟨v,V',F,e,hF,Nat.le_trans hF2 hE,h.on (Nat.le_refl _) k,SsV.on hE (fun b cur e hb => k b cur e (by omega)) h2⟩
theorem SsV.snoc {E E' : Nat} {w : World} {l : List Mat} {v : Value} (hEE : E ≤ E') (hl : LsE E E' w v l) : ∀ {H : Nat} {Q : List (List Mat)} {V : List Value},H ≤ E → SsV E w H Q V → SsV E' w H (Q ++ [l]) (V ++ [v])
 | _,[],_,hH,h => by cases h; exact ⟨v,[],E',rfl,by omega,Nat.le_refl _,hl.mono hH,rfl⟩
 | _,x :: Q,_,hH,⟨u,V',F,e,hF,hF2,h,h2⟩ => ⟨u,V' ++ [v],F,by rw [e]; rfl,hF,by omega,h,SsV.snoc hEE hl hF2 h2⟩
theorem SsV.mono {E H H' : Nat} {w : World} (hH : H' ≤ H) : ∀ {Q : List (List Mat)} {V : List Value},SsV E w H Q V → SsV E w H' Q V
 | [],_,h => h
 | l :: Q,_,⟨v,V',F,e,hF,hF2,h,h2⟩ => ⟨v,V',F,e,by omega,hF2,h.mono hH,h2⟩
theorem SsV.up {E E' H : Nat} {w : World} {Q : List (List Mat)} {V : List Value} (h : SsV E w H Q V) (hE : E ≤ E') : SsV E' w H Q V:=h.on hE fun _ _ _ _ _ _ => rfl
/-- A list of lists of matrices that was read: all of it is new. -/
def LlV (H : Nat) (w : World) (v : Value) (Q : List (List Mat)) : Prop:=(∃ V,MS 1 32 H w v Q.length V ∧ SsV w.heap.size w H Q V) ∧ (Q = [] → v = .slice none 0 0)
theorem LlV.kx {H : Nat} {w w' : World} {v : Value} {l : List (List Mat)} {X : Nat → Prop} (h : LlV H w v l) (k : KX X w w') (hX : ∀ b,X b → b < H) : LlV H w' v l:=by
 obtain ⟨⟨V,h1,h2⟩,h3⟩:=h
 exact ⟨⟨V,h1.on fun b hb hl => k.block b hl fun hx => by have:=hX b hx; omega,h2.on k.size fun b cur e hb _ hg => k.block b (lt_of_block hg) fun hx => by have:=hX b hx; omega⟩,h3⟩
theorem LlV.mono {H H' : Nat} {w : World} {v : Value} {l : List (List Mat)} (h : LlV H w v l) (hH : H' ≤ H) : LlV H' w v l:=by
 obtain ⟨⟨V,h1,h2⟩,h3⟩:=h
 exact ⟨⟨V,h1.mono hH,h2.mono hH⟩,h3⟩
theorem LlV.form {H : Nat} {w : World} {v : Value} {l : List (List Mat)} (h : LlV H w v l) : ∃ ao c,v = .slice ao l.length c:=by
 obtain ⟨⟨V,h1,-⟩,-⟩:=h
 exact h1.form
/-- One more list. -/
theorem ll_app (H : Nat) (u wr : World) (qv : Value) (Q : List (List Mat)) (hu : LlV H u qv Q) (X : Nat → Prop) (ku : KX X u wr) (hX : ∀ b,X b → b < H) (hHu : H ≤ u.heap.size) (lv : Value) (l : List Mat) (hl : LsV u.heap.size wr lv l) (hlen : Q.length < 10000000) :
  ∃ v' w',(∀ ty,(Builtin.append_ #[33,33] ty #[qv,.slice (some ⟨wr.heap.size,0,none⟩) 1 1]).run Try.prog (wr.alloc (.cells #[lv] 32)) = .ok v' w') ∧ LlV H w' v' (Q ++ [l]) ∧ KX (fun b => H ≤ b) wr w' ∧ ∀ H0 E0 v0 l0,LsE H0 E0 wr v0 l0 → LsE H0 E0 w' v0 l0:=by
 have hH : H ≤ wr.heap.size:=Nat.le_trans hHu ku.size
 obtain ⟨⟨V,h1,h2⟩,-⟩:=hu
 replace h1 : MS 1 32 H wr qv Q.length V:=h1.on fun b hb hl => ku.block b hl fun hx => by have:=hX b hx; omega
 replace h2 : SsV u.heap.size wr H Q V:=h2.on (Nat.le_refl _) fun b cur e hb _ hg => ku.block b (lt_of_block hg) fun hx => by have:=hX b hx; omega
 obtain ⟨ao,c,elv⟩:=hl.form
 obtain ⟨v',w',hr,hm,hk⟩:=app_elemx 33 32 lm_under (.slice none 0 0) 1 24 lm_info rfl (by decide) H wr qv Q.length V h1 [lv] rfl (fun u hu => by
  rw [List.mem_singleton] at hu
  rw [hu,elv]
  rfl) hH hlen
 have hkeep : ∀ (b : Nat) cur e,(e = 3 ∨ e = 54) → wr.heap[b]? = some (.cells cur e (0,0)) → w'.heap[b]? = wr.heap[b]?:=fun b cur e he hg => hk.block b (lt_of_block hg) fun ⟨n,c',e1⟩ => by
  rcases h1 with ⟨-,-,e2⟩ | ⟨g2,cap,e2,-,-,-,cur2,hg2,-⟩
  ·rw [e1] at e2; cases e2
  ·rw [e1] at e2
   cases e2
   rw [hg] at hg2
   simp at hg2
   rcases he with rfl | rfl <;> simp at hg2
 refine ⟨v',w',hr,⟨⟨V ++ [lv],?_,?_⟩,fun e => by simp at e⟩,hk.mono ?_,fun H0 E0 v0 l0 h0 => h0.on (Nat.le_refl _) fun b cur e _ => hkeep b cur e⟩
 ·rw [List.length_append]; exact hm
 ·exact ((h2.on (Nat.le_refl _) fun b cur e _ => hkeep b cur e).snoc ku.size (hl.on (Nat.le_refl _) fun b cur e _ => hkeep b cur e) hHu).up hk.size
 ·rintro b ⟨n,c,e⟩
  rcases h1 with ⟨-,-,e2⟩ | ⟨g2,cap,e2,hg2,-⟩
  ·rw [e] at e2; cases e2
  ·rw [e] at e2; cases e2; exact hg2
/-- A block whose cells are listed. -/
structure Bk (w : World) (b : Nat) (vs : List Value) : Prop where
 c : ∀ i v,vs[i]? = some v → w.cell? ⟨b,i,none⟩ = some v
 fz : ∀ o,w.frozen? ⟨b,o,none⟩ = false
 lt : b < w.heap.size
theorem Bk.new (w : World) (vs : List Value) (t : TypeId) : Bk (w.alloc (.cells vs.toArray t)) w.heap.size vs:=by
 refine ⟨fun i v h => ?_,fun o => by simp [go_sem],by simp⟩
 rw [cell_of_row _ w.heap.size i vs.toArray t (0,0) (heap_alloc_new w _)]
 simpa using h
theorem Bk.kx {X : Nat → Prop} {w w' : World} {b : Nat} {vs : List Value} (h : Bk w b vs) (k : KX X w w') (hn : ¬ X b) : Bk w' b vs :=
 ⟨fun i v e => (World.cell?_of_block (k.block b h.lt hn)).trans (h.c i v e),fun o => (k.frozen _).trans (h.fz o),Nat.lt_of_lt_of_le h.lt k.size⟩
theorem Bk.kept {w w' : World} {b : Nat} {vs : List Value} (h : Bk w b vs) (k : Kept w w') : Bk w' b vs:=h.kx (k.kx fun _ => False) id
theorem Bk.set {w : World} {b : Nat} {vs : List Value} (h : Bk w b vs) (i : Nat) (u : Value) : Bk (w.setCell ⟨b,i,none⟩ u) b (vs.set i u):=by
 refine ⟨fun j v e => ?_,fun o => (World.frozen?_setCell _ _ _ _).trans (h.fz o),by simpa using h.lt⟩
 rw [List.getElem?_set] at e
 by_cases hij : i = j
 ·subst hij
  rw [if_pos rfl] at e
  by_cases hl : i < vs.length
  ·rw [if_pos hl] at e
   cases e
   have hc:=h.c i _ (List.getElem?_eq_getElem hl)
   simp [go_sem,hc]
  ·rw [if_neg hl] at e
   cases e
 ·rw [if_neg hij] at e
  exact (World.cell?_setCell_other _ _ _ _ (by intro e; cases e; exact hij rfl)).trans (h.c j v e)
theorem Bk.far {w : World} {b : Nat} {vs : List Value} (h : Bk w b vs) {p : Addr} (hp : b ≠ p.block) (u : Value) : Bk (w.setCell p u) b vs:=by
 refine ⟨fun i v e => ?_,fun o => (World.frozen?_setCell _ _ _ _).trans (h.fz o),by simpa using h.lt⟩
 have:=h.c i v e
 have e2:=Below.heap_setCell w p u b hp
 simp only [World.cell?,e2] at this ⊢
 exact this
def mkL : List Int:=[112,115,116,1]
theorem rst1_any (n : Int) (j : Nat) (hj : j < 4) (V : Nat) (w : World) (h : w.cell? ⟨V,0,none⟩ = some (.int .i64 (j : Int))) : Calls Try.prog 50 #[.int .i64 n,.pointer (some ⟨V,0,none⟩)] w fun e w' => e = .returned (.bool (n == mkL.getD j 0)) ∧ Kept w w':=by
 obtain rfl | rfl | rfl | rfl : j = 0 ∨ j = 1 ∨ j = 2 ∨ j = 3:=by omega
 all_goals
  go_enter Try.func50,Try.ntmps50
  go_wp2
  go_ret
  refine ⟨congrArg (fun x => Ending.returned (.bool (n == x))) ?_,Kept.refl _⟩
  decide +kernel
theorem pmk_drop (j : Nat) (hj : j < 4) : mkL.drop j = mkL.getD j 0 :: mkL.drop (j + 1):=by
 obtain rfl | rfl | rfl | rfl : j = 0 ∨ j = 1 ∨ j = 2 ∨ j = 3:=by omega
 all_goals rfl
end Go.Proofs.Ytocjfdiimapojaa
