/- Package state: a reader takes a list of matrices. -/
import Derived.Test.YtocjfdiimapojaaVF
namespace Go.Proofs.Ytocjfdiimapojaa
open Go.ChangeShapes Go.WideShapes Go.ChangeAt Go.RowKit
set_option maxHeartbeats 16000000
set_option maxRecDepth 100000
set_option linter.unusedVariables false
set_option linter.unusedSimpArgs false
theorem mat_under : Try.prog.underlying 32 = some (.slice 54):=by kernel_rfl
theorem mat_info : (Try.prog.info? 54).map (fun i => (i.zero,i.size,i.bytes)) = some (some (.agg #[.int .i64 0,.int .i64 0,.int .i64 0,.slice none 0 0]),4,48):=by kernel_rfl
/-- A matrix's four cells. -/
abbrev mc4 (m : Mat) (g : Nat) : List Value:=[.int .i64 m.r,.int .i64 m.c,.int .i64 m.n,.slice (some ⟨g,0,none⟩) m.L.length m.L.length]
/-- Matrices whose bits lie in blocks of their own,one behind the other,from H on and below E. -/
def MsV (E : Nat) (w : World) : Nat → List Mat → List Value → Prop
 | _,[],V => V = []
 | H,m :: l,V => ∃ g V',V = mc4 m g ++ V' ∧ H ≤ g ∧ g < E ∧ Own w g m.L.length m.L ∧ MsV E w (g + 1) l V'
theorem MsV.on {E E' : Nat} {w w' : World} (hE : E ≤ E') : ∀ {H : Nat} {l : List Mat} {V : List Value},MsV E w H l V → (∀ b cap L,H ≤ b → Own w b cap L → w'.heap[b]? = w.heap[b]?) → MsV E' w' H l V
 | _,[],_,h,_ => h
 | _,m :: l,_,⟨g,V',e,hg,hg2,ho,h⟩,k => ⟨g,V',e,hg,Nat.lt_of_lt_of_le hg2 hE,by
   have kb:=k g _ _ hg ho
   obtain ⟨cur,h1,r⟩:=ho
   exact ⟨cur,kb.trans h1,r⟩,MsV.on hE h fun b cap L hb => k b cap L (by omega)⟩
theorem MsV.snoc {E E' : Nat} {w : World} {m : Mat} {g : Nat} (hEg : E ≤ g) (hg : g < E') (ho : Own w g m.L.length m.L) : ∀ {H : Nat} {l : List Mat} {V : List Value},H ≤ E → MsV E w H l V → MsV E' w H (l ++ [m]) (V ++ mc4 m g)
 | _,[],_,hH,h => by cases h; exact ⟨g,[],rfl,by omega,hg,ho,rfl⟩
 | _,x :: l,_,hH,⟨g',V',e,hg',hg2,ho',h⟩ => ⟨g',V' ++ mc4 m g,by rw [e,List.append_assoc],hg',by omega,ho',MsV.snoc hEg hg ho (by omega) h⟩
theorem MsV.mono {E H H' : Nat} {w : World} (hH : H' ≤ H) : ∀ {l : List Mat} {V : List Value},MsV E w H l V → MsV E w H' l V
 | [],_,h => h
 | m :: l,_,⟨g,V',e,hg,hg2,ho,h⟩ => ⟨g,V',e,Nat.le_trans hH hg,hg2,ho,h⟩
/-- A list of matrices that was read: all of it is new. -/
def LsE (H E : Nat) (w : World) (v : Value) (l : List Mat) : Prop:=(∃ V,MS 4 54 H w v l.length V ∧ MsV E w H l V) ∧ (l = [] → v = .slice none 0 0) ∧ ∀ g n c,v = .slice (some ⟨g,0,none⟩) n c → g < E
def LsV (H : Nat) (w : World) (v : Value) (l : List Mat) : Prop:=LsE H w.heap.size w v l
theorem OwnS.not_own {w : World} {g cap : Nat} {V : List Value} (h : OwnS w g cap 4 54 V) (c : Nat) (L : List Int) : ¬ Own w g c L:=by
 intro ho
 obtain ⟨cur,h1,-⟩:=h
 obtain ⟨cur2,h2,-⟩:=ho
 rw [h1] at h2
 simp at h2
theorem MS.on {sz : Nat} {e : TypeId} {H : Nat} {w w' : World} {v : Value} {k : Nat} {V : List Value} (h : MS sz e H w v k V) (kk : ∀ b,H ≤ b → b < w.heap.size → w'.heap[b]? = w.heap[b]?) : MS sz e H w' v k V:=by
 rcases h with h | ⟨g,cap,h1,h2,h3,h4,h5⟩
 ·exact .inl h
 ·exact .inr ⟨g,cap,h1,h2,h3,h4,h5.on (kk g h2 h5.lt)⟩
theorem LsE.on1 {H E E' : Nat} {w w' : World} {v : Value} {l : List Mat} (h : LsE H E w v l) (hE : E ≤ E') (k1 : ∀ b,H ≤ b → b < w.heap.size → w'.heap[b]? = w.heap[b]?) : LsE H E' w' v l:=by
 obtain ⟨⟨V,h1,h2⟩,h3,h4⟩:=h
 exact ⟨⟨V,h1.on k1,h2.on hE fun b c L hb ho => k1 b hb ho.lt⟩,h3,fun g n c e => Nat.lt_of_lt_of_le (h4 g n c e) hE⟩
theorem LsE.kx {H E : Nat} {w w' : World} {v : Value} {l : List Mat} {X : Nat → Prop} (h : LsE H E w v l) (k : KX X w w') (hX : ∀ b,X b → b < H) : LsE H E w' v l:=h.on1 (Nat.le_refl _) fun b hb hl => k.block b hl fun hx => by have:=hX b hx; omega
theorem LsV.kx {H : Nat} {w w' : World} {v : Value} {l : List Mat} {X : Nat → Prop} (h : LsV H w v l) (k : KX X w w') (hX : ∀ b,X b → b < H) : LsV H w' v l:=h.on1 k.size fun b hb hl => k.block b hl fun hx => by have:=hX b hx; omega
theorem LsE.form {H E : Nat} {w : World} {v : Value} {l : List Mat} (h : LsE H E w v l) : ∃ ao c,v = .slice ao l.length c:=by
 obtain ⟨⟨V,h1,-⟩,-⟩:=h
 exact h1.form
theorem LsV.form {H : Nat} {w : World} {v : Value} {l : List Mat} (h : LsV H w v l) : ∃ ao c,v = .slice ao l.length c:=LsE.form h
theorem RV.kx {u u' : World} {R : Nat} {ao : Option Addr} {B : List Int} {cap q : Nat} {X : Nat → Prop} (h : RV u R ao B cap q) (k : KX X u u') (hX : ∀ b,X b → R < b) : RV u' R ao B cap q:=by
 have e:=k.block R h.lt (fun hx => Nat.lt_irrefl _ (hX R hx))
 refine ⟨(World.cell?_of_block e).trans h.c0,(World.cell?_of_block e).trans h.c1,(k.frozen _).trans h.fz,fun hn => ?_,h.le,h.sm,h.lc⟩
 obtain ⟨b,off,e2,hb,hr⟩:=h.bd hn
 have e3:=k.block b (Nat.lt_trans hb h.lt) (fun hx => Nat.lt_asymm hb (hX b hx))
 exact ⟨b,off,e2,hb,fun i hi => (World.cell?_of_block e3).trans (hr i hi)⟩
/-- One more matrix. -/
theorem ls_app (H : Nat) (u wr : World) (lv : Value) (l : List Mat) (hu : LsV H u lv l) (X : Nat → Prop) (ku : KX X u wr) (hX : ∀ b,X b → b < H) (hHu : H ≤ u.heap.size) (m : Mat) (g : Nat) (hg : u.heap.size ≤ g) (ho : Own wr g m.L.length m.L) (hlen : l.length < 10000000) :
  ∃ v' w',(∀ ty,(Builtin.append_ #[32,32] ty #[lv,.slice (some ⟨wr.heap.size,0,none⟩) 1 1]).run Try.prog (wr.alloc (.cells #[.int .i64 m.r,.int .i64 m.c,.int .i64 m.n,.slice (some ⟨g,0,none⟩) m.L.length m.L.length] 54)) = .ok v' w') ∧ LsV H w' v' (l ++ [m]) ∧ KX (fun b => H ≤ b) wr w':=by
 have hH : H ≤ wr.heap.size:=Nat.le_trans hHu ku.size
 have h2u:=hu
 obtain ⟨⟨V,h1,h2⟩,-,-⟩:=h2u
 replace h1 : MS 4 54 H wr lv l.length V:=h1.on fun b hb hl => ku.block b hl fun hx => by have:=hX b hx; omega
 replace h2 : MsV u.heap.size wr H l V:=h2.on (Nat.le_refl _) fun b c L hb hoo => ku.block b hoo.lt fun hx => by have:=hX b hx; omega
 obtain ⟨v',w',hr,hm,hk⟩:=app_elemx 32 54 mat_under (.agg #[.int .i64 0,.int .i64 0,.int .i64 0,.slice none 0 0]) 4 48 mat_info rfl (by decide) H wr lv l.length V h1 (mc4 m g) rfl (fun u hu => by
  simp only [mc4,List.mem_cons,List.not_mem_nil,or_false] at hu
  rcases hu with rfl | rfl | rfl | rfl <;> rfl) hH hlen
 have hrow : ∀ b c L,(∃ n c,lv = .slice (some ⟨b,0,none⟩) n c) → ¬ Own wr b c L:=by
  rintro b c L ⟨n,c',e⟩
  rcases h1 with ⟨-,-,e2⟩ | ⟨g2,cap,e2,-,-,-,h5⟩
  ·rw [e] at e2; cases e2
  ·rw [e] at e2; cases e2; exact h5.not_own c L
 have hkeep : ∀ b c L,H ≤ b → Own wr b c L → w'.heap[b]? = wr.heap[b]?:=fun b c L hb ho => hk.block b ho.lt fun hx => hrow b c L hx ho
 have hm' : MS 4 54 H w' v' (l ++ [m]).length (V ++ mc4 m g):=by rw [List.length_append]; exact hm
 refine ⟨v',w',hr,⟨⟨V ++ mc4 m g,hm',?_⟩,fun e => by simp at e,fun g2 n c e => ?_⟩,hk.mono ?_⟩
 ·have ho2 : Own w' g m.L.length m.L:=by
   have kb:=hkeep g _ _ (by omega) ho
   obtain ⟨cur,h1,r⟩:=ho
   exact ⟨cur,kb.trans h1,r⟩
  exact (h2.on (Nat.le_refl _) hkeep).snoc hg (Nat.lt_of_lt_of_le ho.lt hk.size) ho2 hHu
 ·rcases hm' with ⟨-,-,e2⟩ | ⟨g3,cap,e2,-,-,-,h5⟩
  ·rw [e] at e2; cases e2
  ·rw [e] at e2; cases e2; exact h5.lt
 ·rintro b ⟨n,c,e⟩
  rcases h1 with ⟨-,-,e2⟩ | ⟨g2,cap,e2,hg2,-⟩
  ·rw [e] at e2; cases e2
  ·rw [e] at e2; cases e2; exact hg2
theorem rmatrices_any (k : Nat) (ki most : Int) (hki : (k : Int) = ki) (hk1 : 1 ≤ k) (hk2 : k ≤ 2) (hm : most ≤ 100) (q cap R : Nat) (ao : Option Addr) (B : List Int) (w : World) (hR : RV w R ao B cap q) (hB : Byt B) :
  Calls Try.prog 52 #[.pointer (some ⟨R,0,none⟩),.int .i64 ki,.int .i64 most] w (Gv R ao B cap w (pmats k most B q) (LsV w.heap.size)):=by
 obtain ⟨H,hH⟩ : ∃ H,w.heap.size = H:=⟨_,rfl⟩
 have hRl:=hR.lt
 rw [hH] at hRl
 obtain ⟨W0,hW0⟩ : ∃ W0,w.alloc (.cells #[.int .i64 most] 3) = W0:=⟨_,rfl⟩
 have k0 : Kept w W0:=by rw [← hW0]; exact (Kept.refl w).alloc _ _
 have i0 : IC W0 H most:=by rw [← hW0,← hH]; exact IC.new w most
 have HK1:=hid (number_any1 k q cap R 65 ao B ⟨H,0,none⟩ hk1 (by omega) (fun n => decide (n ≤ most)) W0 ki hki (hR.kept k0) hB (fun x wx => rfl) (fun u ku => atMost1_any _ most H u (i0.kept ku).c))
 obtain ⟨X,hX⟩ : ∃ X,pmats k most B q = X:=⟨_,rfl⟩
 rw [hX]
 replace hX : ((pnum k (fun n => decide (n ≤ most)) B q).andTo fun n q => prep n.toNat pmat B q) = X:=hX
 have hk0:=hid k0
 clear k0 i0 hR
 rcases hx1 : pnum k (fun n => decide (n ≤ most)) B q with ⟨er,pl⟩ | ⟨n,q1⟩
 ·rw [hx1] at HK1
  rw [hx1,Res.andTo_no] at hX
  subst hX
  clear hx1
  go_enter Try.func52,Try.ntmps52
  go_wp2_with (first | (go_at_call 53; refine (atMost_any _ _).mono ?_; rintro e u1 ⟨rfl,rfl⟩))
  go_at_call 49
  refine HK1.out.mono ?_
  intro e w1 h1
  obtain ⟨rfl,g1⟩:=gv_no h1
  go_wp2_with fail
  exact ⟨rfl,rfl,(hk0.out.toGrw R).trans g1⟩
 obtain ⟨en,hn,rfl,hl1⟩:=pnum_ok hx1
 rw [decide_eq_true_eq] at hn
 have hn0 : 0 ≤ n:=by
  rw [en]
  have h:=un_rng k B q hB
  have e2 : (256 : Int) ^ k ≤ 256 ^ 2:=by
   have h9:=Int.ofNat_le.2 (Nat.pow_le_pow_right (n:=256) (by decide) hk2)
   rw [Int.natCast_pow,Int.natCast_pow] at h9
   exact h9
  have e3 : (256 : Int) ^ 2 = 65536:=by decide
  unfold numv
  rw [wrap_i64]
  omega
 clear en
 obtain ⟨N,rfl⟩:=Int.eq_ofNat_of_zero_le hn0
 rw [hx1] at HK1
 rw [hx1,Res.andTo_ok,Int.toNat_natCast] at hX
 obtain ⟨q2,hq2⟩ : ∃ q2,q + k = q2:=⟨_,rfl⟩
 rw [hq2] at hX HK1
 have HX:=hid hX
 have HH:=hid (show N ≤ 100 ∧ R < H ∧ w.heap.size = H from ⟨by omega,hRl,hH⟩)
 clear hX hx1 hn hn0 hm hq2 hl1 hRl
 go_enter Try.func52,Try.ntmps52
 go_wp2_with (first | (go_at_call 53; refine (atMost_any _ _).mono ?_; rintro e u1 ⟨rfl,rfl⟩))
 go_at_call 49
 refine HK1.out.mono ?_
 intro e w1 h1
 obtain ⟨v,rfl,g1,r1,ev⟩:=gv_ok h1
 obtain rfl : v = .int .i64 (N : Int):=ev
 have hg1:=hid ((hk0.out.toGrw R).trans g1)
 have hr1:=hid r1
 clear h1 g1 r1 HK1 hk0 hW0 hH
 go_wp2_with fail
 go_loopw [7,13] (fun lv iv wr => ∃ (j : Nat) (acc : List Mat) (q1 : Nat) (av : Value),lv = av ∧ j ≤ N ∧ acc.length = j ∧ iv = .int .i64 (j : Int) ∧ Grw R w wr ∧ RV wr R ao B cap q1 ∧ LsV H wr av acc ∧ (prep N pmat B q2 = (prep (N - j) pmat B q1).andTo fun l qq => .ok (acc ++ l) qq)) (fun _ iv _ => N - (intOf iv).toNat)
 case atStart =>
  refine ⟨0,[],q2,_,rfl,Nat.zero_le _,rfl,rfl,hg1.out,hr1.out,⟨⟨[],.inl ⟨rfl,rfl,rfl⟩,rfl⟩,fun _ => rfl,fun g n c e => by cases e⟩,?_⟩
  rw [Nat.sub_zero]
  cases prep N pmat B q2 <;> rfl
 case round =>
  obtain ⟨j,acc,q1,av,hlv,hj,hal,rfl,gr,rv,hL,hp⟩:=hrel
  have h9:=hlv.symm
  subst h9
  clear hlv
  by_cases hjn : j < N
  ·have HNj:=hid (rmatrix_any q1 cap R ao B wr rv hB)
   have hps:=hid (prep_step _ B N j q2 q1 hjn acc hp)
   have z2 : IntKind.i64.wrap ((j : Int) + 1) = (j : Int) + 1:=by have:=HH.out.1; rw [wrap_i64]; omega
   have hbd2 : (j : Int) < (N : Int):=by omega
   have hgr:=hid gr
   have hLL:=hid hL
   have hsz:=hid gr.size
   clear hp gr rv hL
   rcases hx : pmat B q1 with ⟨er,pl⟩ | ⟨x,q3⟩
   ·rw [hx] at HNj hps
    have hXe : X = .no er pl:=by rw [← HX.out,hps.out]; rfl
    subst hXe
    go_wp2_with fail
    go_at_call 64
    refine HNj.out.mono ?_
    intro e w5 h1
    obtain ⟨rfl,g5⟩:=gv_no h1
    go_wp2_with fail
    exact ⟨rfl,rfl,hgr.out.trans g5⟩
   ·rw [hx] at HNj hps
    clear hx
    go_wp2_with fail
    go_at_call 64
    refine HNj.out.mono ?_
    intro e w5 h1
    obtain ⟨v,rfl,g5,r5,g,rfl,hg,hO⟩:=gv_ok h1
    clear h1
    obtain ⟨h1,h2,h3⟩:=HH.out
    have hs5:=g5.size
    have hs9:=hsz.out
    obtain ⟨v',w6,hrun,hL6,k6⟩:=ls_app H wr w5 _ acc hLL.out _ g5.kx (fun b hb => by omega) (by omega) x g (by omega) hO (by omega)
    have HR:=hid hrun
    have r6:=hid (show RV w6 R ao B cap q3 from r5.kx k6 (fun b hb => by omega))
    have hg6:=hid (show Grw R w w6 from (((hgr.out.trans g5).kx.mono (Y:=fun b => b = R ∨ H ≤ b) fun b hb => .inl hb).trans (k6.mono fun b hb => .inr hb)).grw fun i hi hx => hx.resolve_right (by omega))
    have hL7:=hid hL6
    clear hrun hL6 k6 r5 g5 hO hs5 hs9 hg h1 h2 h3
    go_wp2_with (first | (at_builtin; refine wpList_append_run rfl _ _ _ rfl _ _ rfl rfl _ _ (HR.out _) ?_))
    go_roundw
    case rel => exact ⟨j + 1,acc ++ [x],q3,_,rfl,by omega,by simp; omega,by go_num,hg6.out,r6.out,hL7.out,hps.out⟩
    case measure => simp [intOf]; omega
  ·obtain rfl : j = N:=by omega
   rw [Nat.sub_self] at hp
   have hXe : X = .ok acc q1:=by rw [← HX.out,hp]; simp [prep,ppure,Res.andTo]
   subst hXe
   have hgr:=hid gr
   have hrv:=hid rv
   have hLL:=hid hL
   clear hp gr rv hL
   go_wp2_with fail
   go_ret
   exact ⟨_,rfl,hgr.out,hrv.out,by rw [HH.out.2.2]; exact hLL.out⟩
end Go.Proofs.Ytocjfdiimapojaa
