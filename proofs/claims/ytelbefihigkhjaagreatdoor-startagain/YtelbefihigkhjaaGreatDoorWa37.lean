/- Package start: what makes the elements of a parameter,kind by kind. -/
import Derived.Test.YtelbefihigkhjaaGreatDoorWa35
import Derived.Test.YtelbefihigkhjaaGreatDoorWa36
namespace Go.Proofs.YtelbefihigkhjaaGreatDoor
open Go.ChangeShapes Go.WideShapes Go.ChangeAt Go.RowKit
set_option maxHeartbeats 16000000
set_option maxRecDepth 100000
set_option linter.unusedVariables false
set_option linter.unusedSimpArgs false
theorem NumUp.shape {D : Nat} {w : World} {v : Value} {x : Nm} (h : NumUp D w v x) : ∃ n ao l c e,v = .agg #[.bool n,.slice ao l c,.int .i64 e]:=by
 rcases h with ⟨-,rfl⟩ | ⟨g,cap,rfl,-⟩
 ·exact ⟨_,_,_,_,_,rfl⟩
 ·exact ⟨_,_,_,_,_,rfl⟩
theorem NumUp.setX {D : Nat} {w : World} {v : Value} {x : Nm} (h : NumUp D w v x) (b o : Nat) (z : Value) (hb : w.cell? ⟨b,0,none⟩ = some z) (hz : ∀ n,z ≠ .int .i64 n) (u : Value) : NumUp D (w.setCell ⟨b,o,none⟩ u) v x:=by
 rcases h with h | ⟨g,cap,e,hg,ho,hne⟩
 ·exact .inl h
 ·refine .inr ⟨g,cap,e,hg,ho.setOther ?_ u,hne⟩
  intro he
  have:=ho.cell 0 (List.length_pos_iff.2 hne)
  rw [show g = b from he,hb] at this
  cases this
  exact hz _ rfl
theorem N3.far {w : World} {b : Nat} {u v x : Value} (h : N3 w b u v x) (c o : Nat) (hc : c ≠ b) (y : Value) : N3 (w.setCell ⟨c,o,none⟩ y) b u v x:=by
 obtain ⟨c0,c1,c2,f⟩:=h
 exact ⟨by simp [go_sem,c0,hc],by simp [go_sem,c1,hc],by simp [go_sem,c2,hc],fun o => by simp [World.frozen?_setCell,f]⟩
theorem N3.put {w : World} {b : Nat} {u v x : Value} (h : N3 w b u v x) (u' v' x' : Value) : N3 (((w.setCell ⟨b,0,none⟩ u').setCell ⟨b,1,none⟩ v').setCell ⟨b,2,none⟩ x') b u' v' x':=by
 obtain ⟨c0,c1,c2,f⟩:=h
 exact ⟨by simp [go_sem,c0,c1,c2],by simp [go_sem,c0,c1,c2],by simp [go_sem,c0,c1,c2],fun o => by simp [World.frozen?_setCell,f]⟩
theorem NumUp.set3 {D : Nat} {w : World} {v : Value} {x : Nm} (h : NumUp D w v x) (b : Nat) {q : Bool} {y z : Value} (hb : N3 w b (.bool q) y z) (q' : Bool) (y' z' : Value) : NumUp D (((w.setCell ⟨b,0,none⟩ (.bool q')).setCell ⟨b,1,none⟩ y').setCell ⟨b,2,none⟩ z') v x:=by
 have c0:=hb.c0
 refine ((h.setX b 0 _ hb.c0 (fun n h => by cases h) _).setX b 1 (.bool q') (by simp [go_sem,c0]) (fun n h => by cases h) _).setX b 2 (.bool q') (by simp [go_sem,c0]) (fun n h => by cases h) _
structure JN (X : World) (Y : World → Prop) (x : Option Value) (u : World) : Prop where
 k : Kept X u
 v : Y u
 n : NuB X u x
theorem JN.next {X : World} {Y Y' : World → Prop} {x : Option Value} {u u' : World} (h : JN X Y x u) (k : Kept u u') (hv : Y' u') : JN X Y' x u':=⟨h.k.trans k,hv,h.n.kept k⟩
theorem JN.start {X : World} {Y : World → Prop} {u : World} (k : Kept X u) (hv : Y u) : JN X Y none u:=⟨k,hv,(fun v hv => by cases hv)⟩
theorem jn_flt {ops : Array Oper} {Q : Exit → Act → World → Prop} {S : World → Prop} {i1 : Nat} {d1 : Tmp} {o1 : Oper} {X : World} {Y : World → Prop} (sY : StE Y) (hS : ∀ u,Kept X u → S u)
  (h1 : ops[i1]? = some o1) (e1 : o1.op = .alloc 78 ∧ o1.dst = some d1 ∧ o1.guard = none) : Flt1 Tryz.prog ops Q S i1 d1 (JN X Y):=by
 refine ⟨fun x w h => hS w h.k,fun K a w hI h => ?_⟩
 refine wpOp_step h1 fun K' hK => ?_
 have hw : Region.wanted o1 (yielded ops a.tmps) = true:=by unfold Region.wanted; rw [e1.2.2]
 rw [if_pos hw]
 refine nu_alloc e1.1 (hK _ _ ?_)
 rw [e1.2.1]
 have k : Kept w (w.alloc (.cells #[.bool false,.slice none 0 0,.int .i64 0] 78)):=(Kept.refl w).alloc _ _
 exact h _ _ ⟨hI.k.trans k,sY _ _ k hI.v,fun v hv => by cases hv; exact ⟨_,rfl,hI.k.below.size,N3.new w _ _ _ _⟩⟩
/-- what is there behind the first row: the draw's box,a variable with the function over it,a variable with a number -/
structure El (w u : World) (D U A1 : Nat) (n1 : Bool) (a1 : Option Addr) (l1 c1 : Nat) (x1 : Int) (s t : Int) (xa : Nm) : Prop where
 k : Kept w u
 oD : w.heap.size ≤ D
 oU : w.heap.size ≤ U
 oA : w.heap.size ≤ A1
 nU : U ≠ D
 nA : A1 ≠ D
 nUA : U ≠ A1
 dw : Dw u D s t 0
 fn : u.cell? ⟨U,0,none⟩ = some (ufn D)
 bx : N3 u A1 (.bool n1) (.slice a1 l1 c1) (.int .i64 x1)
 up : NumUp D u (.agg #[.bool n1,.slice a1 l1 c1,.int .i64 x1]) xa
theorem El.kept {w u u' : World} {D U A1 : Nat} {n1 : Bool} {a1 : Option Addr} {l1 c1 : Nat} {x1 : Int} {s t : Int} {xa : Nm} (h : El w u D U A1 n1 a1 l1 c1 x1 s t xa) (k : Kept u u') : El w u' D U A1 n1 a1 l1 c1 x1 s t xa :=
 ⟨h.k.trans k,h.oD,h.oU,h.oA,h.nU,h.nA,h.nUA,h.dw.kept k,(k.below.cell (p:=⟨U,0,none⟩) (cell_ltU h.fn)).trans h.fn,h.bx.kept k,h.up.kept k⟩
def Ep4 (s t : Int) (xa : Nm) (w : World) (e : Ending) (w' : World) : Prop:=∃ D U A1 n1 a1 l1 c1 x1,e = .returned (.func (.func 111) #[] #[.pointer (some ⟨A1,0,none⟩)]) ∧ El w w' D U A1 n1 a1 l1 c1 x1 s t xa
def Ep3 (s t : Int) (xa : Nm) (w : World) (e : Ending) (w' : World) : Prop:=∃ D U A1 n1 a1 l1 c1 x1,e = .returned (.func (.func 109) #[] #[.pointer (some ⟨A1,0,none⟩),.pointer (some ⟨U,0,none⟩)]) ∧ El w w' D U A1 n1 a1 l1 c1 x1 s t xa
def Ep1 (s t : Int) (xa xr : Nm) (w : World) (e : Ending) (w' : World) : Prop:=∃ D U A1 n1 a1 l1 c1 x1 R n2 a2 l2 c2 x2,e = .returned (.func (.func 104) #[] #[.pointer (some ⟨A1,0,none⟩),.pointer (some ⟨R,0,none⟩),.pointer (some ⟨U,0,none⟩)]) ∧ El w w' D U A1 n1 a1 l1 c1 x1 s t xa ∧ w.heap.size ≤ R ∧ R ≠ D ∧ N3 w' R (.bool n2) (.slice a2 l2 c2) (.int .i64 x2) ∧ NumUp D w' (.agg #[.bool n2,.slice a2 l2 c2,.int .i64 x2]) xr
def Ep2 (s t : Int) (xa xr : Nm) (w : World) (e : Ending) (w' : World) : Prop:=∃ D U A1 n1 a1 l1 c1 x1 R n2 a2 l2 c2 x2,e = .returned (.func (.func 108) #[] #[.pointer (some ⟨R,0,none⟩),.pointer (some ⟨U,0,none⟩)]) ∧ El w w' D U A1 n1 a1 l1 c1 x1 s t xa ∧ w.heap.size ≤ R ∧ R ≠ D ∧ N3 w' R (.bool n2) (.slice a2 l2 c2) (.int .i64 x2) ∧ NumUp D w' (.agg #[.bool n2,.slice a2 l2 c2,.int .i64 x2]) xr
theorem els4 (kd rows cols wd va vb s t : Int) (xa xb : Nm) (hk : kd = 0 ∨ kd = 1) (w : World)
  (KO : Hid (∀ u c y,(c = va ∧ y = xa ∨ c = vb ∧ y = xb) → Kept w u → Calls Tryz.prog 102 #[.int .i64 c,.int .i64 64] u fun e w' => ∃ v,e = .returned v ∧ New u w' v y ∧ Kept u w')) :
  Calls Tryz.prog 29 #[.agg #[.int .i64 kd,.int .i64 rows,.int .i64 cols,.int .i64 wd,.int .i64 va,.int .i64 vb],.agg #[.int .i64 s,.int .i64 t,.int .i64 0]] w (Ep4 s t xa w):=by
 have hk' : Hid (kd = 0 ∨ kd = 1):=hk
 clear hk
 obtain ⟨X,hX⟩ : ∃ X,X = (w.alloc (.cells #[.int .i64 kd,.int .i64 rows,.int .i64 cols,.int .i64 wd,.int .i64 va,.int .i64 vb] 23)).alloc (.cells #[.int .i64 s,.int .i64 t,.int .i64 0] 72):=⟨_,rfl⟩
 obtain ⟨B0,hB0⟩ : ∃ B,B = w.heap.size:=⟨_,rfl⟩
 obtain ⟨B1,hB1⟩ : ∃ B,B = B0 + 1:=⟨_,rfl⟩
 have hK : Kept w X:=by rw [hX]; exact ((Kept.refl w).alloc _ _).alloc _ _
 have HX : Hid (∀ u,Kept X u → Kept X u ∧ (u.cell? ⟨B1,0,none⟩ = some (.int .i64 s) ∧ u.cell? ⟨B1,1,none⟩ = some (.int .i64 t) ∧ u.cell? ⟨B1,2,none⟩ = some (.int .i64 0)) ∧ u.cell? ⟨B0,0,none⟩ = some (.int .i64 kd) ∧ u.cell? ⟨B0,1,none⟩ = some (.int .i64 rows) ∧ u.cell? ⟨B0,2,none⟩ = some (.int .i64 cols) ∧ u.cell? ⟨B0,3,none⟩ = some (.int .i64 wd) ∧ u.cell? ⟨B0,4,none⟩ = some (.int .i64 va) ∧ u.cell? ⟨B0,5,none⟩ = some (.int .i64 vb)):=fun u k => by
  have h : ∀ b o,b < X.heap.size → u.cell? ⟨b,o,none⟩ = X.cell? ⟨b,o,none⟩:=fun b o hb => k.below.cell (p:=⟨b,o,none⟩) hb
  have hs : X.heap.size = w.heap.size + 2:=by rw [hX]; simp
  refine ⟨k,⟨?_,?_,?_⟩,?_,?_,?_,?_,?_,?_⟩
  all_goals first
   | (rw [h _ _ (by omega),hX,hB1,hB0]; simp [go_sem])
   | (rw [h _ _ (by omega),hX,hB0]; simp [go_sem])
 have oX : Hid (w.heap.size ≤ X.heap.size):=hK.below.size
 have hSS : Hid (∀ u,Kept X u → Kept X u ∧ (u.cell? ⟨B1,0,none⟩ = some (.int .i64 s) ∧ u.cell? ⟨B1,1,none⟩ = some (.int .i64 t) ∧ u.cell? ⟨B1,2,none⟩ = some (.int .i64 0)) ∧ u.cell? ⟨B0,0,none⟩ = some (.int .i64 kd) ∧ u.cell? ⟨B0,1,none⟩ = some (.int .i64 rows) ∧ u.cell? ⟨B0,2,none⟩ = some (.int .i64 cols) ∧ u.cell? ⟨B0,3,none⟩ = some (.int .i64 wd) ∧ u.cell? ⟨B0,4,none⟩ = some (.int .i64 va) ∧ u.cell? ⟨B0,5,none⟩ = some (.int .i64 vb)):=fun u k => HX.out u k
 go_enter Tryz.func29,Tryz.ntmps29
 go_upto_region 1 with fail
 rw [← hX,← hB0,← hB1]
 clear hX hB0 hB1
 refine wp_region_late [] (fun u => Kept X u ∧ (u.cell? ⟨B1,0,none⟩ = some (.int .i64 s) ∧ u.cell? ⟨B1,1,none⟩ = some (.int .i64 t) ∧ u.cell? ⟨B1,2,none⟩ = some (.int .i64 0)) ∧ u.cell? ⟨B0,0,none⟩ = some (.int .i64 kd) ∧ u.cell? ⟨B0,1,none⟩ = some (.int .i64 rows) ∧ u.cell? ⟨B0,2,none⟩ = some (.int .i64 cols) ∧ u.cell? ⟨B0,3,none⟩ = some (.int .i64 wd) ∧ u.cell? ⟨B0,4,none⟩ = some (.int .i64 va) ∧ u.cell? ⟨B0,5,none⟩ = some (.int .i64 vb)) (by kernel_rfl) (HX.out _ (Kept.refl X).drew) (fun hHeld => ?_)
 refine tkD (i:=0) (v:=?_) rfl hHeld ?_
 (try simp only [Act.put,zA,zB,zC,zD,zE,zF])
 refine tkD (i:=2) (v:=?_) rfl hHeld ?_
 (try simp only [Act.put,zA,zB,zC,zD,zE,zF])
 refine tkD (i:=3) (v:=?_) rfl hHeld ?_
 (try simp only [Act.put,zA,zB,zC,zD,zE,zF])
 refine tkD (i:=5) (v:=?_) rfl hHeld ?_
 (try simp only [Act.put,zA,zB,zC,zD,zE,zF])
 refine tkD (i:=6) (v:=?_) rfl hHeld ?_
 (try simp only [Act.put,zA,zB,zC,zD,zE,zF])
 refine FL_in (i1:=7) (i2:=8) (d1:=5) (d2:=6) (I:=JE X (fun _ => True)) (JE.start hHeld.1 trivial) ?_
 refine FL_step (c:=1) (I':=fun v x y u => ∃ D,v = ufn D ∧ JE X (fun u => X.heap.size ≤ D ∧ Dw u D s t 0) x y u) rfl (by kernel_rfl) rfl rfl (je_flt (fun _ _ _ h => h) hSS.out rfl rfl ⟨rfl,rfl,rfl⟩ ⟨rfl,rfl,rfl⟩) (fun v x y w h => h.elim fun _ h => hSS.out w h.2.k) (fun xF yF uF hJ K hK9 => ?_) (fun v1 => FL_ex fun D => FL_eq fun hv1 => ?_)
 ·rcases xF with _ | xF <;> rcases yF with _ | yF
  all_goals (
   (try simp only [fpt,Act.put,zA,zB,zC,zD,zE,zF])
   go_simp
   go_wp2_with fail
   refine (uniforms_any s t 0 _).mono ?_
   rintro e u1 ⟨D,rfl,hD,hw,k⟩
   exact hK9.out _ _ _ (by first | rfl | (simp only [fpt,Act.put,zA,zB,zC,zD,zE,zF])) ⟨D,rfl,hJ.next k ⟨Nat.le_trans hJ.k.below.size hD,hw⟩⟩
  )
 subst hv1
 (try simp only [Act.put,zA,zB,zC,zD,zE,zF])
 refine FL_step (c:=4) (I':=fun v x y u => JE X (fun u => (X.heap.size ≤ D ∧ Dw u D s t 0) ∧ NumUp D u v xa) x y u) rfl (by kernel_rfl) rfl rfl (je_flt (fun _ _ k h => ⟨h.1,h.2.kept k⟩) hSS.out rfl rfl ⟨rfl,rfl,rfl⟩ ⟨rfl,rfl,rfl⟩) (fun v x y w h => hSS.out w h.k) (fun xF yF uF hJ K hK9 => ?_) (fun v4 => ?_)
 ·rcases xF with _ | xF <;> rcases yF with _ | yF
  all_goals (
   (try simp only [fpt,Act.put,zA,zB,zC,zD,zE,zF])
   go_simp
   go_wp2_with fail
   refine (KO.out _ _ _ (.inl ⟨rfl,rfl⟩) (hK.trans hJ.k)).mono ?_
   rintro e u1 ⟨v,rfl,hN,k⟩
   exact hK9.out _ _ _ (by first | rfl | (simp only [fpt,Act.put,zA,zB,zC,zD,zE,zF])) (hJ.next k ⟨⟨hJ.v.1,hJ.v.2.kept k⟩,hN.up hJ.v.2.1.lt⟩)
  )
 (try simp only [Act.put,zA,zB,zC,zD,zE,zF])
 refine FL_end (by kernel_rfl) rfl rfl (je_flt (fun _ _ k h => ⟨⟨h.1.1,h.1.2.kept k⟩,h.2.kept k⟩) hSS.out rfl rfl ⟨rfl,rfl,rfl⟩ ⟨rfl,rfl,rfl⟩) (fun xF yF uF hJ => ?_)
 obtain ⟨U,rfl,oU,cU,fU⟩:=hJ.f _ rfl
 obtain ⟨A1,rfl,oA,cA⟩:=hJ.n _ rfl
 obtain ⟨⟨oD,hDw⟩,hNu⟩:=hJ.v
 have kU:=hJ.k
 clear hJ
 obtain ⟨n1,a1,l1,c1,x1,rfl⟩:=hNu.shape
 have nUD : U ≠ D:=fun e => by rw [e,hDw.1.1] at cU; cases cU
 have nAD : A1 ≠ D:=fun e => by have:=cA.c0; rw [e,hDw.1.1] at this; cases this
 have nUA : U ≠ A1:=fun e => by have:=cA.c0; rw [← e,cU] at this; cases this
 have kV:=kU.setCell (p:=⟨U,0,none⟩) oU (ufn D)
 have cA2:=cA.far U 0 nUA (ufn D)
 have dV:=hDw.far ⟨U,0,none⟩ nUD (ufn D)
 have uV:=hNu.setX U 0 .nilFunc cU (fun n h => by cases h) (ufn D)
 have cV : (uF.setCell ⟨U,0,none⟩ (ufn D)).cell? ⟨U,0,none⟩ = some (ufn D):=by simp [go_sem,cU]
 (try simp only [Act.put,zA,zB,zC,zD,zE,zF])
 refine wpAnyD_step (i:=9) (by kernel_rfl) rfl (fun K hK9 => ?_)
 go_simp
 refine hK9.out _ _ (hSS.out _ kV) (fun hH => ?_)
 clear hK9 K
 (try simp only [Act.put,zA,zB,zC,zD,zE,zF])
 generalize uF.setCell ⟨U,0,none⟩ (ufn D) = V at *
 have kW:=((kV.setCell (p:=⟨A1,0,none⟩) oA (.bool n1)).setCell (p:=⟨A1,1,none⟩) oA (.slice a1 l1 c1)).setCell (p:=⟨A1,2,none⟩) oA (.int .i64 x1)
 have hEl : El w (((V.setCell ⟨A1,0,none⟩ (.bool n1)).setCell ⟨A1,1,none⟩ (.slice a1 l1 c1)).setCell ⟨A1,2,none⟩ (.int .i64 x1)) D U A1 n1 a1 l1 c1 x1 s t xa:=by
  have o:=oX.out
  refine ⟨hK.trans kW,Nat.le_trans o oD,Nat.le_trans o oU,Nat.le_trans o oA,nUD,nAD,nUA,((dV.far ⟨A1,0,none⟩ nAD _).far ⟨A1,1,none⟩ nAD _).far ⟨A1,2,none⟩ nAD _,?_,cA2.put _ _ _,uV.set3 A1 cA2 n1 _ _⟩
  simp [go_sem,cV,nUA,Ne.symm nUA]
 obtain ⟨e0,e1,e2,ef⟩:=cA2
 refine wpAnyD_step (i:=10) (by kernel_rfl) rfl (fun K hK9 => ?_)
 go_simp
 refine hK9.out _ _ (hSS.out _ kW) (fun hH2 => ?_)
 clear hK9 K
 (try simp only [Act.put,zA,zB,zC,zD,zE,zF])
 refine tkD (i:=11) (v:=?_) rfl hH2 ?_
 (try simp only [Act.put,zA,zB,zC,zD,zE,zF])
 refine wpAnyD_done (by kernel_rfl) ?_ _
 (try simp only [Act.put,zA,zB,zC,zD,zE,zF])
 generalize ((V.setCell ⟨A1,0,none⟩ (.bool n1)).setCell ⟨A1,1,none⟩ (.slice a1 l1 c1)).setCell ⟨A1,2,none⟩ (.int .i64 x1) = Y at *
 have HY : Hid (∀ u,Kept Y u → u.cell? ⟨B0,0,none⟩ = some (.int .i64 kd) ∧ u.cell? ⟨B0,1,none⟩ = some (.int .i64 rows) ∧ u.cell? ⟨B0,2,none⟩ = some (.int .i64 cols) ∧ u.cell? ⟨B0,3,none⟩ = some (.int .i64 wd) ∧ u.cell? ⟨B0,4,none⟩ = some (.int .i64 va) ∧ u.cell? ⟨B0,5,none⟩ = some (.int .i64 vb)):=fun u k => (HX.out u (hH2.1.trans k)).2.2
 clear e0 e1 e2 ef dV uV cV kV hH hH2 kW hNu hDw cU fU cA kU nUD nAD nUA oU oA oD HX hSS hHeld
 obtain ⟨z0,z1,z2,z3,z4,z5⟩:=HY.out _ (Kept.refl Y)
 rcases hk'.out with rfl | rfl
 all_goals
  go_wp2_with fail
  go_ret
  exact (show Exists _ from ⟨D,U,A1,n1,a1,l1,c1,x1,rfl,hEl⟩)
theorem els3 (kd rows cols wd va vb s t : Int) (xa xb : Nm) (hk : kd = 5) (w : World)
  (KO : Hid (∀ u c y,(c = va ∧ y = xa ∨ c = vb ∧ y = xb) → Kept w u → Calls Tryz.prog 102 #[.int .i64 c,.int .i64 64] u fun e w' => ∃ v,e = .returned v ∧ New u w' v y ∧ Kept u w')) :
  Calls Tryz.prog 29 #[.agg #[.int .i64 kd,.int .i64 rows,.int .i64 cols,.int .i64 wd,.int .i64 va,.int .i64 vb],.agg #[.int .i64 s,.int .i64 t,.int .i64 0]] w (Ep3 s t xa w):=by
 subst hk
 obtain ⟨X,hX⟩ : ∃ X,X = (w.alloc (.cells #[.int .i64 5,.int .i64 rows,.int .i64 cols,.int .i64 wd,.int .i64 va,.int .i64 vb] 23)).alloc (.cells #[.int .i64 s,.int .i64 t,.int .i64 0] 72):=⟨_,rfl⟩
 obtain ⟨B0,hB0⟩ : ∃ B,B = w.heap.size:=⟨_,rfl⟩
 obtain ⟨B1,hB1⟩ : ∃ B,B = B0 + 1:=⟨_,rfl⟩
 have hK : Kept w X:=by rw [hX]; exact ((Kept.refl w).alloc _ _).alloc _ _
 have HX : Hid (∀ u,Kept X u → Kept X u ∧ (u.cell? ⟨B1,0,none⟩ = some (.int .i64 s) ∧ u.cell? ⟨B1,1,none⟩ = some (.int .i64 t) ∧ u.cell? ⟨B1,2,none⟩ = some (.int .i64 0)) ∧ u.cell? ⟨B0,0,none⟩ = some (.int .i64 5) ∧ u.cell? ⟨B0,1,none⟩ = some (.int .i64 rows) ∧ u.cell? ⟨B0,2,none⟩ = some (.int .i64 cols) ∧ u.cell? ⟨B0,3,none⟩ = some (.int .i64 wd) ∧ u.cell? ⟨B0,4,none⟩ = some (.int .i64 va) ∧ u.cell? ⟨B0,5,none⟩ = some (.int .i64 vb)):=fun u k => by
  have h : ∀ b o,b < X.heap.size → u.cell? ⟨b,o,none⟩ = X.cell? ⟨b,o,none⟩:=fun b o hb => k.below.cell (p:=⟨b,o,none⟩) hb
  have hs : X.heap.size = w.heap.size + 2:=by rw [hX]; simp
  refine ⟨k,⟨?_,?_,?_⟩,?_,?_,?_,?_,?_,?_⟩
  all_goals first
   | (rw [h _ _ (by omega),hX,hB1,hB0]; simp [go_sem])
   | (rw [h _ _ (by omega),hX,hB0]; simp [go_sem])
 have oX : Hid (w.heap.size ≤ X.heap.size):=hK.below.size
 have hSS : Hid (∀ u,Kept X u → Kept X u ∧ (u.cell? ⟨B1,0,none⟩ = some (.int .i64 s) ∧ u.cell? ⟨B1,1,none⟩ = some (.int .i64 t) ∧ u.cell? ⟨B1,2,none⟩ = some (.int .i64 0)) ∧ u.cell? ⟨B0,0,none⟩ = some (.int .i64 5) ∧ u.cell? ⟨B0,1,none⟩ = some (.int .i64 rows) ∧ u.cell? ⟨B0,2,none⟩ = some (.int .i64 cols) ∧ u.cell? ⟨B0,3,none⟩ = some (.int .i64 wd) ∧ u.cell? ⟨B0,4,none⟩ = some (.int .i64 va) ∧ u.cell? ⟨B0,5,none⟩ = some (.int .i64 vb)):=fun u k => HX.out u k
 go_enter Tryz.func29,Tryz.ntmps29
 go_upto_region 1 with fail
 rw [← hX,← hB0,← hB1]
 clear hX hB0 hB1
 refine wp_region_late [] (fun u => Kept X u ∧ (u.cell? ⟨B1,0,none⟩ = some (.int .i64 s) ∧ u.cell? ⟨B1,1,none⟩ = some (.int .i64 t) ∧ u.cell? ⟨B1,2,none⟩ = some (.int .i64 0)) ∧ u.cell? ⟨B0,0,none⟩ = some (.int .i64 5) ∧ u.cell? ⟨B0,1,none⟩ = some (.int .i64 rows) ∧ u.cell? ⟨B0,2,none⟩ = some (.int .i64 cols) ∧ u.cell? ⟨B0,3,none⟩ = some (.int .i64 wd) ∧ u.cell? ⟨B0,4,none⟩ = some (.int .i64 va) ∧ u.cell? ⟨B0,5,none⟩ = some (.int .i64 vb)) (by kernel_rfl) (HX.out _ (Kept.refl X).drew) (fun hHeld => ?_)
 refine tkD (i:=0) (v:=?_) rfl hHeld ?_
 (try simp only [Act.put,zA,zB,zC,zD,zE,zF])
 refine tkD (i:=2) (v:=?_) rfl hHeld ?_
 (try simp only [Act.put,zA,zB,zC,zD,zE,zF])
 refine tkD (i:=3) (v:=?_) rfl hHeld ?_
 (try simp only [Act.put,zA,zB,zC,zD,zE,zF])
 refine tkD (i:=5) (v:=?_) rfl hHeld ?_
 (try simp only [Act.put,zA,zB,zC,zD,zE,zF])
 refine tkD (i:=6) (v:=?_) rfl hHeld ?_
 (try simp only [Act.put,zA,zB,zC,zD,zE,zF])
 refine FL_in (i1:=7) (i2:=8) (d1:=5) (d2:=6) (I:=JE X (fun _ => True)) (JE.start hHeld.1 trivial) ?_
 refine FL_step (c:=1) (I':=fun v x y u => ∃ D,v = ufn D ∧ JE X (fun u => X.heap.size ≤ D ∧ Dw u D s t 0) x y u) rfl (by kernel_rfl) rfl rfl (je_flt (fun _ _ _ h => h) hSS.out rfl rfl ⟨rfl,rfl,rfl⟩ ⟨rfl,rfl,rfl⟩) (fun v x y w h => h.elim fun _ h => hSS.out w h.2.k) (fun xF yF uF hJ K hK9 => ?_) (fun v1 => FL_ex fun D => FL_eq fun hv1 => ?_)
 ·rcases xF with _ | xF <;> rcases yF with _ | yF
  all_goals (
   (try simp only [fpt,Act.put,zA,zB,zC,zD,zE,zF])
   go_simp
   go_wp2_with fail
   refine (uniforms_any s t 0 _).mono ?_
   rintro e u1 ⟨D,rfl,hD,hw,k⟩
   exact hK9.out _ _ _ (by first | rfl | (simp only [fpt,Act.put,zA,zB,zC,zD,zE,zF])) ⟨D,rfl,hJ.next k ⟨Nat.le_trans hJ.k.below.size hD,hw⟩⟩
  )
 subst hv1
 (try simp only [Act.put,zA,zB,zC,zD,zE,zF])
 refine FL_step (c:=4) (I':=fun v x y u => JE X (fun u => (X.heap.size ≤ D ∧ Dw u D s t 0) ∧ NumUp D u v xa) x y u) rfl (by kernel_rfl) rfl rfl (je_flt (fun _ _ k h => ⟨h.1,h.2.kept k⟩) hSS.out rfl rfl ⟨rfl,rfl,rfl⟩ ⟨rfl,rfl,rfl⟩) (fun v x y w h => hSS.out w h.k) (fun xF yF uF hJ K hK9 => ?_) (fun v4 => ?_)
 ·rcases xF with _ | xF <;> rcases yF with _ | yF
  all_goals (
   (try simp only [fpt,Act.put,zA,zB,zC,zD,zE,zF])
   go_simp
   go_wp2_with fail
   refine (KO.out _ _ _ (.inl ⟨rfl,rfl⟩) (hK.trans hJ.k)).mono ?_
   rintro e u1 ⟨v,rfl,hN,k⟩
   exact hK9.out _ _ _ (by first | rfl | (simp only [fpt,Act.put,zA,zB,zC,zD,zE,zF])) (hJ.next k ⟨⟨hJ.v.1,hJ.v.2.kept k⟩,hN.up hJ.v.2.1.lt⟩)
  )
 (try simp only [Act.put,zA,zB,zC,zD,zE,zF])
 refine FL_end (by kernel_rfl) rfl rfl (je_flt (fun _ _ k h => ⟨⟨h.1.1,h.1.2.kept k⟩,h.2.kept k⟩) hSS.out rfl rfl ⟨rfl,rfl,rfl⟩ ⟨rfl,rfl,rfl⟩) (fun xF yF uF hJ => ?_)
 obtain ⟨U,rfl,oU,cU,fU⟩:=hJ.f _ rfl
 obtain ⟨A1,rfl,oA,cA⟩:=hJ.n _ rfl
 obtain ⟨⟨oD,hDw⟩,hNu⟩:=hJ.v
 have kU:=hJ.k
 clear hJ
 obtain ⟨n1,a1,l1,c1,x1,rfl⟩:=hNu.shape
 have nUD : U ≠ D:=fun e => by rw [e,hDw.1.1] at cU; cases cU
 have nAD : A1 ≠ D:=fun e => by have:=cA.c0; rw [e,hDw.1.1] at this; cases this
 have nUA : U ≠ A1:=fun e => by have:=cA.c0; rw [← e,cU] at this; cases this
 have kV:=kU.setCell (p:=⟨U,0,none⟩) oU (ufn D)
 have cA2:=cA.far U 0 nUA (ufn D)
 have dV:=hDw.far ⟨U,0,none⟩ nUD (ufn D)
 have uV:=hNu.setX U 0 .nilFunc cU (fun n h => by cases h) (ufn D)
 have cV : (uF.setCell ⟨U,0,none⟩ (ufn D)).cell? ⟨U,0,none⟩ = some (ufn D):=by simp [go_sem,cU]
 (try simp only [Act.put,zA,zB,zC,zD,zE,zF])
 refine wpAnyD_step (i:=9) (by kernel_rfl) rfl (fun K hK9 => ?_)
 go_simp
 refine hK9.out _ _ (hSS.out _ kV) (fun hH => ?_)
 clear hK9 K
 (try simp only [Act.put,zA,zB,zC,zD,zE,zF])
 generalize uF.setCell ⟨U,0,none⟩ (ufn D) = V at *
 have kW:=((kV.setCell (p:=⟨A1,0,none⟩) oA (.bool n1)).setCell (p:=⟨A1,1,none⟩) oA (.slice a1 l1 c1)).setCell (p:=⟨A1,2,none⟩) oA (.int .i64 x1)
 have hEl : El w (((V.setCell ⟨A1,0,none⟩ (.bool n1)).setCell ⟨A1,1,none⟩ (.slice a1 l1 c1)).setCell ⟨A1,2,none⟩ (.int .i64 x1)) D U A1 n1 a1 l1 c1 x1 s t xa:=by
  have o:=oX.out
  refine ⟨hK.trans kW,Nat.le_trans o oD,Nat.le_trans o oU,Nat.le_trans o oA,nUD,nAD,nUA,((dV.far ⟨A1,0,none⟩ nAD _).far ⟨A1,1,none⟩ nAD _).far ⟨A1,2,none⟩ nAD _,?_,cA2.put _ _ _,uV.set3 A1 cA2 n1 _ _⟩
  simp [go_sem,cV,nUA,Ne.symm nUA]
 obtain ⟨e0,e1,e2,ef⟩:=cA2
 refine wpAnyD_step (i:=10) (by kernel_rfl) rfl (fun K hK9 => ?_)
 go_simp
 refine hK9.out _ _ (hSS.out _ kW) (fun hH2 => ?_)
 clear hK9 K
 (try simp only [Act.put,zA,zB,zC,zD,zE,zF])
 refine tkD (i:=11) (v:=?_) rfl hH2 ?_
 (try simp only [Act.put,zA,zB,zC,zD,zE,zF])
 refine wpAnyD_done (by kernel_rfl) ?_ _
 (try simp only [Act.put,zA,zB,zC,zD,zE,zF])
 generalize ((V.setCell ⟨A1,0,none⟩ (.bool n1)).setCell ⟨A1,1,none⟩ (.slice a1 l1 c1)).setCell ⟨A1,2,none⟩ (.int .i64 x1) = Y at *
 have HY : Hid (∀ u,Kept Y u → u.cell? ⟨B0,0,none⟩ = some (.int .i64 5) ∧ u.cell? ⟨B0,1,none⟩ = some (.int .i64 rows) ∧ u.cell? ⟨B0,2,none⟩ = some (.int .i64 cols) ∧ u.cell? ⟨B0,3,none⟩ = some (.int .i64 wd) ∧ u.cell? ⟨B0,4,none⟩ = some (.int .i64 va) ∧ u.cell? ⟨B0,5,none⟩ = some (.int .i64 vb)):=fun u k => (HX.out u (hH2.1.trans k)).2.2
 clear e0 e1 e2 ef dV uV cV kV hH hH2 kW hNu hDw cU fU cA kU nUD nAD nUA oU oA oD HX hSS hHeld
 obtain ⟨z0,z1,z2,z3,z4,z5⟩:=HY.out _ (Kept.refl Y)
 go_wp2_with fail
 go_ret
 exact (show Exists _ from ⟨D,U,A1,n1,a1,l1,c1,x1,rfl,hEl⟩)
theorem els1 (kd rows cols wd va vb s t : Int) (xa xb xr : Nm) (hk : kd = 2) (w : World)
  (KO : Hid (∀ u c y,(c = va ∧ y = xa ∨ c = vb ∧ y = xb) → Kept w u → Calls Tryz.prog 102 #[.int .i64 c,.int .i64 64] u fun e w' => ∃ v,e = .returned v ∧ New u w' v y ∧ Kept u w'))
  (KS : Hid (∀ u v1 v2,Kept w u → NumAt u v1 xb → NumAt u v2 xa → Calls Tryz.prog 103 #[v1,v2] u fun e w' => ∃ v,e = .returned v ∧ New u w' v xr ∧ Kept u w')) :
  Calls Tryz.prog 29 #[.agg #[.int .i64 kd,.int .i64 rows,.int .i64 cols,.int .i64 wd,.int .i64 va,.int .i64 vb],.agg #[.int .i64 s,.int .i64 t,.int .i64 0]] w (Ep1 s t xa xr w):=by
 subst hk
 obtain ⟨X,hX⟩ : ∃ X,X = (w.alloc (.cells #[.int .i64 2,.int .i64 rows,.int .i64 cols,.int .i64 wd,.int .i64 va,.int .i64 vb] 23)).alloc (.cells #[.int .i64 s,.int .i64 t,.int .i64 0] 72):=⟨_,rfl⟩
 obtain ⟨B0,hB0⟩ : ∃ B,B = w.heap.size:=⟨_,rfl⟩
 obtain ⟨B1,hB1⟩ : ∃ B,B = B0 + 1:=⟨_,rfl⟩
 have hK : Kept w X:=by rw [hX]; exact ((Kept.refl w).alloc _ _).alloc _ _
 have HX : Hid (∀ u,Kept X u → Kept X u ∧ (u.cell? ⟨B1,0,none⟩ = some (.int .i64 s) ∧ u.cell? ⟨B1,1,none⟩ = some (.int .i64 t) ∧ u.cell? ⟨B1,2,none⟩ = some (.int .i64 0)) ∧ u.cell? ⟨B0,0,none⟩ = some (.int .i64 2) ∧ u.cell? ⟨B0,1,none⟩ = some (.int .i64 rows) ∧ u.cell? ⟨B0,2,none⟩ = some (.int .i64 cols) ∧ u.cell? ⟨B0,3,none⟩ = some (.int .i64 wd) ∧ u.cell? ⟨B0,4,none⟩ = some (.int .i64 va) ∧ u.cell? ⟨B0,5,none⟩ = some (.int .i64 vb)):=fun u k => by
  have h : ∀ b o,b < X.heap.size → u.cell? ⟨b,o,none⟩ = X.cell? ⟨b,o,none⟩:=fun b o hb => k.below.cell (p:=⟨b,o,none⟩) hb
  have hs : X.heap.size = w.heap.size + 2:=by rw [hX]; simp
  refine ⟨k,⟨?_,?_,?_⟩,?_,?_,?_,?_,?_,?_⟩
  all_goals first
   | (rw [h _ _ (by omega),hX,hB1,hB0]; simp [go_sem])
   | (rw [h _ _ (by omega),hX,hB0]; simp [go_sem])
 have oX : Hid (w.heap.size ≤ X.heap.size):=hK.below.size
 have hSS : Hid (∀ u,Kept X u → Kept X u ∧ (u.cell? ⟨B1,0,none⟩ = some (.int .i64 s) ∧ u.cell? ⟨B1,1,none⟩ = some (.int .i64 t) ∧ u.cell? ⟨B1,2,none⟩ = some (.int .i64 0)) ∧ u.cell? ⟨B0,0,none⟩ = some (.int .i64 2) ∧ u.cell? ⟨B0,1,none⟩ = some (.int .i64 rows) ∧ u.cell? ⟨B0,2,none⟩ = some (.int .i64 cols) ∧ u.cell? ⟨B0,3,none⟩ = some (.int .i64 wd) ∧ u.cell? ⟨B0,4,none⟩ = some (.int .i64 va) ∧ u.cell? ⟨B0,5,none⟩ = some (.int .i64 vb)):=fun u k => HX.out u k
 go_enter Tryz.func29,Tryz.ntmps29
 go_upto_region 1 with fail
 rw [← hX,← hB0,← hB1]
 clear hX hB0 hB1
 refine wp_region_late [] (fun u => Kept X u ∧ (u.cell? ⟨B1,0,none⟩ = some (.int .i64 s) ∧ u.cell? ⟨B1,1,none⟩ = some (.int .i64 t) ∧ u.cell? ⟨B1,2,none⟩ = some (.int .i64 0)) ∧ u.cell? ⟨B0,0,none⟩ = some (.int .i64 2) ∧ u.cell? ⟨B0,1,none⟩ = some (.int .i64 rows) ∧ u.cell? ⟨B0,2,none⟩ = some (.int .i64 cols) ∧ u.cell? ⟨B0,3,none⟩ = some (.int .i64 wd) ∧ u.cell? ⟨B0,4,none⟩ = some (.int .i64 va) ∧ u.cell? ⟨B0,5,none⟩ = some (.int .i64 vb)) (by kernel_rfl) (HX.out _ (Kept.refl X).drew) (fun hHeld => ?_)
 refine tkD (i:=0) (v:=?_) rfl hHeld ?_
 (try simp only [Act.put,zA,zB,zC,zD,zE,zF])
 refine tkD (i:=2) (v:=?_) rfl hHeld ?_
 (try simp only [Act.put,zA,zB,zC,zD,zE,zF])
 refine tkD (i:=3) (v:=?_) rfl hHeld ?_
 (try simp only [Act.put,zA,zB,zC,zD,zE,zF])
 refine tkD (i:=5) (v:=?_) rfl hHeld ?_
 (try simp only [Act.put,zA,zB,zC,zD,zE,zF])
 refine tkD (i:=6) (v:=?_) rfl hHeld ?_
 (try simp only [Act.put,zA,zB,zC,zD,zE,zF])
 refine FL_in (i1:=7) (i2:=8) (d1:=5) (d2:=6) (I:=JE X (fun _ => True)) (JE.start hHeld.1 trivial) ?_
 refine FL_step (c:=1) (I':=fun v x y u => ∃ D,v = ufn D ∧ JE X (fun u => X.heap.size ≤ D ∧ Dw u D s t 0) x y u) rfl (by kernel_rfl) rfl rfl (je_flt (fun _ _ _ h => h) hSS.out rfl rfl ⟨rfl,rfl,rfl⟩ ⟨rfl,rfl,rfl⟩) (fun v x y w h => h.elim fun _ h => hSS.out w h.2.k) (fun xF yF uF hJ K hK9 => ?_) (fun v1 => FL_ex fun D => FL_eq fun hv1 => ?_)
 ·rcases xF with _ | xF <;> rcases yF with _ | yF
  all_goals (
   (try simp only [fpt,Act.put,zA,zB,zC,zD,zE,zF])
   go_simp
   go_wp2_with fail
   refine (uniforms_any s t 0 _).mono ?_
   rintro e u1 ⟨D,rfl,hD,hw,k⟩
   exact hK9.out _ _ _ (by first | rfl | (simp only [fpt,Act.put,zA,zB,zC,zD,zE,zF])) ⟨D,rfl,hJ.next k ⟨Nat.le_trans hJ.k.below.size hD,hw⟩⟩
  )
 subst hv1
 (try simp only [Act.put,zA,zB,zC,zD,zE,zF])
 refine FL_step (c:=4) (I':=fun v x y u => JE X (fun u => (X.heap.size ≤ D ∧ Dw u D s t 0) ∧ NumUp D u v xa) x y u) rfl (by kernel_rfl) rfl rfl (je_flt (fun _ _ k h => ⟨h.1,h.2.kept k⟩) hSS.out rfl rfl ⟨rfl,rfl,rfl⟩ ⟨rfl,rfl,rfl⟩) (fun v x y w h => hSS.out w h.k) (fun xF yF uF hJ K hK9 => ?_) (fun v4 => ?_)
 ·rcases xF with _ | xF <;> rcases yF with _ | yF
  all_goals (
   (try simp only [fpt,Act.put,zA,zB,zC,zD,zE,zF])
   go_simp
   go_wp2_with fail
   refine (KO.out _ _ _ (.inl ⟨rfl,rfl⟩) (hK.trans hJ.k)).mono ?_
   rintro e u1 ⟨v,rfl,hN,k⟩
   exact hK9.out _ _ _ (by first | rfl | (simp only [fpt,Act.put,zA,zB,zC,zD,zE,zF])) (hJ.next k ⟨⟨hJ.v.1,hJ.v.2.kept k⟩,hN.up hJ.v.2.1.lt⟩)
  )
 (try simp only [Act.put,zA,zB,zC,zD,zE,zF])
 refine FL_end (by kernel_rfl) rfl rfl (je_flt (fun _ _ k h => ⟨⟨h.1.1,h.1.2.kept k⟩,h.2.kept k⟩) hSS.out rfl rfl ⟨rfl,rfl,rfl⟩ ⟨rfl,rfl,rfl⟩) (fun xF yF uF hJ => ?_)
 obtain ⟨U,rfl,oU,cU,fU⟩:=hJ.f _ rfl
 obtain ⟨A1,rfl,oA,cA⟩:=hJ.n _ rfl
 obtain ⟨⟨oD,hDw⟩,hNu⟩:=hJ.v
 have kU:=hJ.k
 clear hJ
 obtain ⟨n1,a1,l1,c1,x1,rfl⟩:=hNu.shape
 have nUD : U ≠ D:=fun e => by rw [e,hDw.1.1] at cU; cases cU
 have nAD : A1 ≠ D:=fun e => by have:=cA.c0; rw [e,hDw.1.1] at this; cases this
 have nUA : U ≠ A1:=fun e => by have:=cA.c0; rw [← e,cU] at this; cases this
 have kV:=kU.setCell (p:=⟨U,0,none⟩) oU (ufn D)
 have cA2:=cA.far U 0 nUA (ufn D)
 have dV:=hDw.far ⟨U,0,none⟩ nUD (ufn D)
 have uV:=hNu.setX U 0 .nilFunc cU (fun n h => by cases h) (ufn D)
 have cV : (uF.setCell ⟨U,0,none⟩ (ufn D)).cell? ⟨U,0,none⟩ = some (ufn D):=by simp [go_sem,cU]
 (try simp only [Act.put,zA,zB,zC,zD,zE,zF])
 refine wpAnyD_step (i:=9) (by kernel_rfl) rfl (fun K hK9 => ?_)
 go_simp
 refine hK9.out _ _ (hSS.out _ kV) (fun hH => ?_)
 clear hK9 K
 (try simp only [Act.put,zA,zB,zC,zD,zE,zF])
 generalize uF.setCell ⟨U,0,none⟩ (ufn D) = V at *
 have kW:=((kV.setCell (p:=⟨A1,0,none⟩) oA (.bool n1)).setCell (p:=⟨A1,1,none⟩) oA (.slice a1 l1 c1)).setCell (p:=⟨A1,2,none⟩) oA (.int .i64 x1)
 have hEl : El w (((V.setCell ⟨A1,0,none⟩ (.bool n1)).setCell ⟨A1,1,none⟩ (.slice a1 l1 c1)).setCell ⟨A1,2,none⟩ (.int .i64 x1)) D U A1 n1 a1 l1 c1 x1 s t xa:=by
  have o:=oX.out
  refine ⟨hK.trans kW,Nat.le_trans o oD,Nat.le_trans o oU,Nat.le_trans o oA,nUD,nAD,nUA,((dV.far ⟨A1,0,none⟩ nAD _).far ⟨A1,1,none⟩ nAD _).far ⟨A1,2,none⟩ nAD _,?_,cA2.put _ _ _,uV.set3 A1 cA2 n1 _ _⟩
  simp [go_sem,cV,nUA,Ne.symm nUA]
 obtain ⟨e0,e1,e2,ef⟩:=cA2
 refine wpAnyD_step (i:=10) (by kernel_rfl) rfl (fun K hK9 => ?_)
 go_simp
 refine hK9.out _ _ (hSS.out _ kW) (fun hH2 => ?_)
 clear hK9 K
 (try simp only [Act.put,zA,zB,zC,zD,zE,zF])
 refine tkD (i:=11) (v:=?_) rfl hH2 ?_
 (try simp only [Act.put,zA,zB,zC,zD,zE,zF])
 refine wpAnyD_done (by kernel_rfl) ?_ _
 (try simp only [Act.put,zA,zB,zC,zD,zE,zF])
 generalize ((V.setCell ⟨A1,0,none⟩ (.bool n1)).setCell ⟨A1,1,none⟩ (.slice a1 l1 c1)).setCell ⟨A1,2,none⟩ (.int .i64 x1) = Y at *
 have HY : Hid (∀ u,Kept Y u → u.cell? ⟨B0,0,none⟩ = some (.int .i64 2) ∧ u.cell? ⟨B0,1,none⟩ = some (.int .i64 rows) ∧ u.cell? ⟨B0,2,none⟩ = some (.int .i64 cols) ∧ u.cell? ⟨B0,3,none⟩ = some (.int .i64 wd) ∧ u.cell? ⟨B0,4,none⟩ = some (.int .i64 va) ∧ u.cell? ⟨B0,5,none⟩ = some (.int .i64 vb)):=fun u k => (HX.out u (hH2.1.trans k)).2.2
 clear e0 e1 e2 ef dV uV cV kV hH hH2 kW hNu hDw cU fU cA kU nUD nAD nUA oU oA oD HX hSS hHeld
 obtain ⟨z0,z1,z2,z3,z4,z5⟩:=HY.out _ (Kept.refl Y)
 go_upto_region 7 with fail
 have hSY : Hid (∀ u,Kept Y u → Kept Y u ∧ u.cell? ⟨B0,5,none⟩ = some (.int .i64 vb) ∧ u.cell? ⟨A1,0,none⟩ = some (.bool n1) ∧ u.cell? ⟨A1,1,none⟩ = some (.slice a1 l1 c1) ∧ u.cell? ⟨A1,2,none⟩ = some (.int .i64 x1)):=fun u k => ⟨k,(HY.out u k).2.2.2.2.2,((hEl.kept k).bx).c0,((hEl.kept k).bx).c1,((hEl.kept k).bx).c2⟩
 refine wp_region_late [] (fun u => Kept Y u ∧ u.cell? ⟨B0,5,none⟩ = some (.int .i64 vb) ∧ u.cell? ⟨A1,0,none⟩ = some (.bool n1) ∧ u.cell? ⟨A1,1,none⟩ = some (.slice a1 l1 c1) ∧ u.cell? ⟨A1,2,none⟩ = some (.int .i64 x1)) (by kernel_rfl) (hSY.out _ (Kept.refl Y).drew) (fun hHeld => ?_)
 refine tkD (i:=0) (v:=?_) rfl hHeld ?_
 (try simp only [Act.put,zA,zB,zC,zD,zE,zF])
 refine tkD (i:=1) (v:=?_) rfl hHeld ?_
 (try simp only [Act.put,zA,zB,zC,zD,zE,zF])
 refine tkD (i:=3) (v:=?_) rfl hHeld ?_
 (try simp only [Act.put,zA,zB,zC,zD,zE,zF])
 refine F1_in (i1:=5) (d1:=8) (I:=JN Y (fun _ => True)) (JN.start hHeld.1 trivial) ?_
 refine F1_step (c:=2) (I':=fun v x u => JN Y (fun u => NumUp D u v xb) x u) rfl (by kernel_rfl) rfl rfl (jn_flt (fun _ _ _ h => h) hSY.out rfl ⟨rfl,rfl,rfl⟩) (fun v x w h => hSY.out w h.k) (fun xF uF hJ K hK9 => ?_) (fun v2 => ?_)
 ·rcases xF with _ | xF
  all_goals (
   (try simp only [fpt,Act.put,zA,zB,zC,zD,zE,zF])
   go_simp
   go_wp2_with fail
   refine (KO.out _ _ _ (.inr ⟨rfl,rfl⟩) (hEl.k.trans hJ.k)).mono ?_
   rintro e u1 ⟨v,rfl,hN,k⟩
   exact hK9.out _ _ _ (by first | rfl | (simp only [fpt,Act.put,zA,zB,zC,zD,zE,zF])) (hJ.next k (hN.up (hEl.kept hJ.k).dw.1.lt))
  )
 (try simp only [Act.put,zA,zB,zC,zD,zE,zF])
 refine F1_step (c:=4) (I':=fun v x u => JN Y (fun u => NumUp D u v xr) x u) rfl (by kernel_rfl) rfl rfl (jn_flt (fun _ _ k h => h.kept k) hSY.out rfl ⟨rfl,rfl,rfl⟩) (fun v x w h => hSY.out w h.k) (fun xF uF hJ K hK9 => ?_) (fun v4 => ?_)
 ·rcases xF with _ | xF
  all_goals (
   (try simp only [fpt,Act.put,zA,zB,zC,zD,zE,zF])
   go_simp
   go_wp2_with fail
   refine (KS.out _ _ _ (hEl.k.trans hJ.k) hJ.v.numAt (hEl.kept hJ.k).up.numAt).mono ?_
   rintro e u1 ⟨v,rfl,hN,k⟩
   exact hK9.out _ _ _ (by first | rfl | (simp only [fpt,Act.put,zA,zB,zC,zD,zE,zF])) (hJ.next k (hN.up (hEl.kept hJ.k).dw.1.lt))
  )
 (try simp only [Act.put,zA,zB,zC,zD,zE,zF])
 refine F1_end (.inr (by kernel_rfl)) (jn_flt (fun _ _ k h => h.kept k) hSY.out rfl ⟨rfl,rfl,rfl⟩) (fun xF uF hJ => ?_)
 obtain ⟨R,rfl,oR,cR⟩:=hJ.n _ rfl
 have kU:=hJ.k
 have hNu:=hJ.v
 clear hJ
 obtain ⟨n2,a2,l2,c2,x2,rfl⟩:=hNu.shape
 have e1:=hEl.kept kU
 have nRD : R ≠ D:=fun e => by have:=cR.c0; rw [e,e1.dw.1.1] at this; cases this
 have nRA : R ≠ A1:=fun e => by have:=e1.bx.lt; have:=(hEl.bx).lt; omega
 have nRU : R ≠ U:=fun e => by have:=cell_ltU hEl.fn; omega
 have kW:=((kU.setCell (p:=⟨R,0,none⟩) oR (.bool n2)).setCell (p:=⟨R,1,none⟩) oR (.slice a2 l2 c2)).setCell (p:=⟨R,2,none⟩) oR (.int .i64 x2)
 have e2:=hEl.kept kW
 have b2:=cR.put (.bool n2) (.slice a2 l2 c2) (.int .i64 x2)
 have u2:=hNu.set3 R cR n2 (.slice a2 l2 c2) (.int .i64 x2)
 obtain ⟨g0,g1,g2,gf⟩:=cR
 (try simp only [Act.put,zA,zB,zC,zD,zE,zF])
 refine wpAnyD_step (i:=6) (by kernel_rfl) rfl (fun K hK9 => ?_)
 go_simp
 refine hK9.out _ _ (hSY.out _ kW) (fun hH2 => ?_)
 clear hK9 K
 (try simp only [Act.put,zA,zB,zC,zD,zE,zF])
 refine wpAnyD_done (by kernel_rfl) ?_ _
 (try simp only [Act.put,zA,zB,zC,zD,zE,zF])
 go_wp2_with fail
 go_ret
 exact (show Exists _ from ⟨D,U,A1,n1,a1,l1,c1,x1,R,n2,a2,l2,c2,x2,rfl,e2,Nat.le_trans hEl.k.below.size oR,nRD,b2,u2⟩)
theorem els2 (kd rows cols wd va vb s t : Int) (xa xb xr : Nm) (fan L : Int) (hk : kd = 3 ∧ IntKind.i64.wrap (rows + cols) = fan ∨ kd = 4 ∧ rows = fan) (w : World)
  (KO : Hid (∀ u c y,(c = va ∧ y = xa ∨ c = vb ∧ y = xb) → Kept w u → Calls Tryz.prog 102 #[.int .i64 c,.int .i64 64] u fun e w' => ∃ v,e = .returned v ∧ New u w' v y ∧ Kept u w'))
  (KR : Hid (∀ u,Kept w u → Calls Tryz.prog 107 #[.int .i64 fan,.int .i64 wd] u fun e w' => e = .returned (.int .i64 L) ∧ Kept u w'))
  (KL : Hid (∀ u,Kept w u → Calls Tryz.prog 102 #[.int .i64 L,.int .i64 wd] u fun e w' => ∃ v,e = .returned v ∧ New u w' v xr ∧ Kept u w')) :
  Calls Tryz.prog 29 #[.agg #[.int .i64 kd,.int .i64 rows,.int .i64 cols,.int .i64 wd,.int .i64 va,.int .i64 vb],.agg #[.int .i64 s,.int .i64 t,.int .i64 0]] w (Ep2 s t xa xr w):=by
 have hk' : Hid (kd = 3 ∧ IntKind.i64.wrap (rows + cols) = fan ∨ kd = 4 ∧ rows = fan):=hk
 clear hk
 obtain ⟨X,hX⟩ : ∃ X,X = (w.alloc (.cells #[.int .i64 kd,.int .i64 rows,.int .i64 cols,.int .i64 wd,.int .i64 va,.int .i64 vb] 23)).alloc (.cells #[.int .i64 s,.int .i64 t,.int .i64 0] 72):=⟨_,rfl⟩
 obtain ⟨B0,hB0⟩ : ∃ B,B = w.heap.size:=⟨_,rfl⟩
 obtain ⟨B1,hB1⟩ : ∃ B,B = B0 + 1:=⟨_,rfl⟩
 have hK : Kept w X:=by rw [hX]; exact ((Kept.refl w).alloc _ _).alloc _ _
 have HX : Hid (∀ u,Kept X u → Kept X u ∧ (u.cell? ⟨B1,0,none⟩ = some (.int .i64 s) ∧ u.cell? ⟨B1,1,none⟩ = some (.int .i64 t) ∧ u.cell? ⟨B1,2,none⟩ = some (.int .i64 0)) ∧ u.cell? ⟨B0,0,none⟩ = some (.int .i64 kd) ∧ u.cell? ⟨B0,1,none⟩ = some (.int .i64 rows) ∧ u.cell? ⟨B0,2,none⟩ = some (.int .i64 cols) ∧ u.cell? ⟨B0,3,none⟩ = some (.int .i64 wd) ∧ u.cell? ⟨B0,4,none⟩ = some (.int .i64 va) ∧ u.cell? ⟨B0,5,none⟩ = some (.int .i64 vb)):=fun u k => by
  have h : ∀ b o,b < X.heap.size → u.cell? ⟨b,o,none⟩ = X.cell? ⟨b,o,none⟩:=fun b o hb => k.below.cell (p:=⟨b,o,none⟩) hb
  have hs : X.heap.size = w.heap.size + 2:=by rw [hX]; simp
  refine ⟨k,⟨?_,?_,?_⟩,?_,?_,?_,?_,?_,?_⟩
  all_goals first
   | (rw [h _ _ (by omega),hX,hB1,hB0]; simp [go_sem])
   | (rw [h _ _ (by omega),hX,hB0]; simp [go_sem])
 have oX : Hid (w.heap.size ≤ X.heap.size):=hK.below.size
 have hSS : Hid (∀ u,Kept X u → Kept X u ∧ (u.cell? ⟨B1,0,none⟩ = some (.int .i64 s) ∧ u.cell? ⟨B1,1,none⟩ = some (.int .i64 t) ∧ u.cell? ⟨B1,2,none⟩ = some (.int .i64 0)) ∧ u.cell? ⟨B0,0,none⟩ = some (.int .i64 kd) ∧ u.cell? ⟨B0,1,none⟩ = some (.int .i64 rows) ∧ u.cell? ⟨B0,2,none⟩ = some (.int .i64 cols) ∧ u.cell? ⟨B0,3,none⟩ = some (.int .i64 wd) ∧ u.cell? ⟨B0,4,none⟩ = some (.int .i64 va) ∧ u.cell? ⟨B0,5,none⟩ = some (.int .i64 vb)):=fun u k => HX.out u k
 go_enter Tryz.func29,Tryz.ntmps29
 go_upto_region 1 with fail
 rw [← hX,← hB0,← hB1]
 clear hX hB0 hB1
 refine wp_region_late [] (fun u => Kept X u ∧ (u.cell? ⟨B1,0,none⟩ = some (.int .i64 s) ∧ u.cell? ⟨B1,1,none⟩ = some (.int .i64 t) ∧ u.cell? ⟨B1,2,none⟩ = some (.int .i64 0)) ∧ u.cell? ⟨B0,0,none⟩ = some (.int .i64 kd) ∧ u.cell? ⟨B0,1,none⟩ = some (.int .i64 rows) ∧ u.cell? ⟨B0,2,none⟩ = some (.int .i64 cols) ∧ u.cell? ⟨B0,3,none⟩ = some (.int .i64 wd) ∧ u.cell? ⟨B0,4,none⟩ = some (.int .i64 va) ∧ u.cell? ⟨B0,5,none⟩ = some (.int .i64 vb)) (by kernel_rfl) (HX.out _ (Kept.refl X).drew) (fun hHeld => ?_)
 refine tkD (i:=0) (v:=?_) rfl hHeld ?_
 (try simp only [Act.put,zA,zB,zC,zD,zE,zF])
 refine tkD (i:=2) (v:=?_) rfl hHeld ?_
 (try simp only [Act.put,zA,zB,zC,zD,zE,zF])
 refine tkD (i:=3) (v:=?_) rfl hHeld ?_
 (try simp only [Act.put,zA,zB,zC,zD,zE,zF])
 refine tkD (i:=5) (v:=?_) rfl hHeld ?_
 (try simp only [Act.put,zA,zB,zC,zD,zE,zF])
 refine tkD (i:=6) (v:=?_) rfl hHeld ?_
 (try simp only [Act.put,zA,zB,zC,zD,zE,zF])
 refine FL_in (i1:=7) (i2:=8) (d1:=5) (d2:=6) (I:=JE X (fun _ => True)) (JE.start hHeld.1 trivial) ?_
 refine FL_step (c:=1) (I':=fun v x y u => ∃ D,v = ufn D ∧ JE X (fun u => X.heap.size ≤ D ∧ Dw u D s t 0) x y u) rfl (by kernel_rfl) rfl rfl (je_flt (fun _ _ _ h => h) hSS.out rfl rfl ⟨rfl,rfl,rfl⟩ ⟨rfl,rfl,rfl⟩) (fun v x y w h => h.elim fun _ h => hSS.out w h.2.k) (fun xF yF uF hJ K hK9 => ?_) (fun v1 => FL_ex fun D => FL_eq fun hv1 => ?_)
 ·rcases xF with _ | xF <;> rcases yF with _ | yF
  all_goals (
   (try simp only [fpt,Act.put,zA,zB,zC,zD,zE,zF])
   go_simp
   go_wp2_with fail
   refine (uniforms_any s t 0 _).mono ?_
   rintro e u1 ⟨D,rfl,hD,hw,k⟩
   exact hK9.out _ _ _ (by first | rfl | (simp only [fpt,Act.put,zA,zB,zC,zD,zE,zF])) ⟨D,rfl,hJ.next k ⟨Nat.le_trans hJ.k.below.size hD,hw⟩⟩
  )
 subst hv1
 (try simp only [Act.put,zA,zB,zC,zD,zE,zF])
 refine FL_step (c:=4) (I':=fun v x y u => JE X (fun u => (X.heap.size ≤ D ∧ Dw u D s t 0) ∧ NumUp D u v xa) x y u) rfl (by kernel_rfl) rfl rfl (je_flt (fun _ _ k h => ⟨h.1,h.2.kept k⟩) hSS.out rfl rfl ⟨rfl,rfl,rfl⟩ ⟨rfl,rfl,rfl⟩) (fun v x y w h => hSS.out w h.k) (fun xF yF uF hJ K hK9 => ?_) (fun v4 => ?_)
 ·rcases xF with _ | xF <;> rcases yF with _ | yF
  all_goals (
   (try simp only [fpt,Act.put,zA,zB,zC,zD,zE,zF])
   go_simp
   go_wp2_with fail
   refine (KO.out _ _ _ (.inl ⟨rfl,rfl⟩) (hK.trans hJ.k)).mono ?_
   rintro e u1 ⟨v,rfl,hN,k⟩
   exact hK9.out _ _ _ (by first | rfl | (simp only [fpt,Act.put,zA,zB,zC,zD,zE,zF])) (hJ.next k ⟨⟨hJ.v.1,hJ.v.2.kept k⟩,hN.up hJ.v.2.1.lt⟩)
  )
 (try simp only [Act.put,zA,zB,zC,zD,zE,zF])
 refine FL_end (by kernel_rfl) rfl rfl (je_flt (fun _ _ k h => ⟨⟨h.1.1,h.1.2.kept k⟩,h.2.kept k⟩) hSS.out rfl rfl ⟨rfl,rfl,rfl⟩ ⟨rfl,rfl,rfl⟩) (fun xF yF uF hJ => ?_)
 obtain ⟨U,rfl,oU,cU,fU⟩:=hJ.f _ rfl
 obtain ⟨A1,rfl,oA,cA⟩:=hJ.n _ rfl
 obtain ⟨⟨oD,hDw⟩,hNu⟩:=hJ.v
 have kU:=hJ.k
 clear hJ
 obtain ⟨n1,a1,l1,c1,x1,rfl⟩:=hNu.shape
 have nUD : U ≠ D:=fun e => by rw [e,hDw.1.1] at cU; cases cU
 have nAD : A1 ≠ D:=fun e => by have:=cA.c0; rw [e,hDw.1.1] at this; cases this
 have nUA : U ≠ A1:=fun e => by have:=cA.c0; rw [← e,cU] at this; cases this
 have kV:=kU.setCell (p:=⟨U,0,none⟩) oU (ufn D)
 have cA2:=cA.far U 0 nUA (ufn D)
 have dV:=hDw.far ⟨U,0,none⟩ nUD (ufn D)
 have uV:=hNu.setX U 0 .nilFunc cU (fun n h => by cases h) (ufn D)
 have cV : (uF.setCell ⟨U,0,none⟩ (ufn D)).cell? ⟨U,0,none⟩ = some (ufn D):=by simp [go_sem,cU]
 (try simp only [Act.put,zA,zB,zC,zD,zE,zF])
 refine wpAnyD_step (i:=9) (by kernel_rfl) rfl (fun K hK9 => ?_)
 go_simp
 refine hK9.out _ _ (hSS.out _ kV) (fun hH => ?_)
 clear hK9 K
 (try simp only [Act.put,zA,zB,zC,zD,zE,zF])
 generalize uF.setCell ⟨U,0,none⟩ (ufn D) = V at *
 have kW:=((kV.setCell (p:=⟨A1,0,none⟩) oA (.bool n1)).setCell (p:=⟨A1,1,none⟩) oA (.slice a1 l1 c1)).setCell (p:=⟨A1,2,none⟩) oA (.int .i64 x1)
 have hEl : El w (((V.setCell ⟨A1,0,none⟩ (.bool n1)).setCell ⟨A1,1,none⟩ (.slice a1 l1 c1)).setCell ⟨A1,2,none⟩ (.int .i64 x1)) D U A1 n1 a1 l1 c1 x1 s t xa:=by
  have o:=oX.out
  refine ⟨hK.trans kW,Nat.le_trans o oD,Nat.le_trans o oU,Nat.le_trans o oA,nUD,nAD,nUA,((dV.far ⟨A1,0,none⟩ nAD _).far ⟨A1,1,none⟩ nAD _).far ⟨A1,2,none⟩ nAD _,?_,cA2.put _ _ _,uV.set3 A1 cA2 n1 _ _⟩
  simp [go_sem,cV,nUA,Ne.symm nUA]
 obtain ⟨e0,e1,e2,ef⟩:=cA2
 refine wpAnyD_step (i:=10) (by kernel_rfl) rfl (fun K hK9 => ?_)
 go_simp
 refine hK9.out _ _ (hSS.out _ kW) (fun hH2 => ?_)
 clear hK9 K
 (try simp only [Act.put,zA,zB,zC,zD,zE,zF])
 refine tkD (i:=11) (v:=?_) rfl hH2 ?_
 (try simp only [Act.put,zA,zB,zC,zD,zE,zF])
 refine wpAnyD_done (by kernel_rfl) ?_ _
 (try simp only [Act.put,zA,zB,zC,zD,zE,zF])
 generalize ((V.setCell ⟨A1,0,none⟩ (.bool n1)).setCell ⟨A1,1,none⟩ (.slice a1 l1 c1)).setCell ⟨A1,2,none⟩ (.int .i64 x1) = Y at *
 have HY : Hid (∀ u,Kept Y u → u.cell? ⟨B0,0,none⟩ = some (.int .i64 kd) ∧ u.cell? ⟨B0,1,none⟩ = some (.int .i64 rows) ∧ u.cell? ⟨B0,2,none⟩ = some (.int .i64 cols) ∧ u.cell? ⟨B0,3,none⟩ = some (.int .i64 wd) ∧ u.cell? ⟨B0,4,none⟩ = some (.int .i64 va) ∧ u.cell? ⟨B0,5,none⟩ = some (.int .i64 vb)):=fun u k => (HX.out u (hH2.1.trans k)).2.2
 clear e0 e1 e2 ef dV uV cV kV hH hH2 kW hNu hDw cU fU cA kU nUD nAD nUA oU oA oD HX hSS hHeld
 have hSY : Hid (∀ u,Kept Y u → Kept Y u ∧ u.cell? ⟨B0,3,none⟩ = some (.int .i64 wd)):=fun u k => ⟨k,(HY.out u k).2.2.2.1⟩
 obtain ⟨z0,z1,z2,z3,z4,z5⟩:=HY.out _ (Kept.refl Y)
 rcases hk'.out with ⟨rfl,hfan⟩ | ⟨rfl,rfl⟩
 ·go_upto_region 10 with fail
  refine wp_region_late [] (fun u => Kept Y u ∧ u.cell? ⟨B0,3,none⟩ = some (.int .i64 wd)) (by kernel_rfl) (hSY.out _ (Kept.refl Y).drew) (fun hHeld => ?_)
  refine tkD (i:=0) (v:=?_) rfl hHeld ?_
  (try simp only [Act.put,zA,zB,zC,zD,zE,zF])
  refine tkD (i:=1) (v:=?_) rfl hHeld ?_
  (try simp only [Act.put,zA,zB,zC,zD,zE,zF])
  refine tkD (i:=2) (v:=?_) rfl hHeld ?_
  (try simp only [Act.put,zA,zB,zC,zD,zE,zF])
  refine tkD (i:=4) (v:=?_) rfl hHeld ?_
  (try simp only [Act.put,zA,zB,zC,zD,zE,zF])
  refine tkD (i:=5) (v:=?_) rfl hHeld ?_
  (try simp only [Act.put,zA,zB,zC,zD,zE,zF])
  refine F1_in (i1:=7) (d1:=9) (I:=JN Y (fun _ => True)) (JN.start hHeld.1 trivial) ?_
  refine F1_step (c:=3) (I':=fun v x u => v = .int .i64 L ∧ JN Y (fun u => True) x u) rfl (by kernel_rfl) rfl rfl (jn_flt (fun _ _ _ h => h) hSY.out rfl ⟨rfl,rfl,rfl⟩) (fun v x w h => hSY.out w h.2.k) (fun xF uF hJ K hK9 => ?_) (fun v2 => ?_)
  ·rcases xF with _ | xF
   all_goals (
    (try simp only [fpt,Act.put,zA,zB,zC,zD,zE,zF])
    go_simp
    go_wp2_with fail
    refine (KR.out _ (hEl.k.trans hJ.k)).mono ?_
    rintro e u1 ⟨rfl,k⟩
    exact hK9.out _ _ _ (by first | rfl | (simp only [fpt,Act.put,zA,zB,zC,zD,zE,zF])) ⟨rfl,hJ.next k trivial⟩
   )
  refine fun xG wG hG => ?_
  obtain ⟨rfl,hG⟩:=hG
  revert xG wG
  show F1 _ _ _ _ _ _ _ _ _ _ _ (JN Y (fun _ => True))
  (try simp only [Act.put,zA,zB,zC,zD,zE,zF])
  refine F1_step (c:=6) (I':=fun v x u => JN Y (fun u => NumUp D u v xr) x u) rfl (by kernel_rfl) rfl rfl (jn_flt (fun _ _ _ h => h) hSY.out rfl ⟨rfl,rfl,rfl⟩) (fun v x w h => hSY.out w h.k) (fun xF uF hJ K hK9 => ?_) (fun v4 => ?_)
  ·rcases xF with _ | xF
   all_goals (
    (try simp only [fpt,Act.put,zA,zB,zC,zD,zE,zF])
    go_simp
    go_wp2_with fail
    refine (KL.out _ (hEl.k.trans hJ.k)).mono ?_
    rintro e u1 ⟨v,rfl,hN,k⟩
    exact hK9.out _ _ _ (by first | rfl | (simp only [fpt,Act.put,zA,zB,zC,zD,zE,zF])) (hJ.next k (hN.up (hEl.kept hJ.k).dw.1.lt))
   )
  (try simp only [Act.put,zA,zB,zC,zD,zE,zF])
  refine F1_end (.inr (by kernel_rfl)) (jn_flt (fun _ _ k h => h.kept k) hSY.out rfl ⟨rfl,rfl,rfl⟩) (fun xF uF hJ => ?_)
  obtain ⟨R,rfl,oR,cR⟩:=hJ.n _ rfl
  have kU:=hJ.k
  have hNu:=hJ.v
  clear hJ
  obtain ⟨n2,a2,l2,c2,x2,rfl⟩:=hNu.shape
  have e1:=hEl.kept kU
  have nRD : R ≠ D:=fun e => by have:=cR.c0; rw [e,e1.dw.1.1] at this; cases this
  have nRA : R ≠ A1:=fun e => by have:=e1.bx.lt; have:=(hEl.bx).lt; omega
  have nRU : R ≠ U:=fun e => by have:=cell_ltU hEl.fn; omega
  have kW:=((kU.setCell (p:=⟨R,0,none⟩) oR (.bool n2)).setCell (p:=⟨R,1,none⟩) oR (.slice a2 l2 c2)).setCell (p:=⟨R,2,none⟩) oR (.int .i64 x2)
  have e2:=hEl.kept kW
  have b2:=cR.put (.bool n2) (.slice a2 l2 c2) (.int .i64 x2)
  have u2:=hNu.set3 R cR n2 (.slice a2 l2 c2) (.int .i64 x2)
  obtain ⟨g0,g1,g2,gf⟩:=cR
  (try simp only [Act.put,zA,zB,zC,zD,zE,zF])
  refine wpAnyD_step (i:=8) (by kernel_rfl) rfl (fun K hK9 => ?_)
  go_simp
  refine hK9.out _ _ (hSY.out _ kW) (fun hH2 => ?_)
  clear hK9 K
  (try simp only [Act.put,zA,zB,zC,zD,zE,zF])
  refine wpAnyD_done (by kernel_rfl) ?_ _
  (try simp only [Act.put,zA,zB,zC,zD,zE,zF])
  go_wp2_with fail
  go_ret
  exact (show Exists _ from ⟨D,U,A1,n1,a1,l1,c1,x1,R,n2,a2,l2,c2,x2,rfl,e2,Nat.le_trans hEl.k.below.size oR,nRD,b2,u2⟩)
 ·go_upto_region 10 with fail
  refine wp_region_late [] (fun u => Kept Y u ∧ u.cell? ⟨B0,3,none⟩ = some (.int .i64 wd)) (by kernel_rfl) (hSY.out _ (Kept.refl Y).drew) (fun hHeld => ?_)
  refine tkD (i:=0) (v:=?_) rfl hHeld ?_
  (try simp only [Act.put,zA,zB,zC,zD,zE,zF])
  refine tkD (i:=1) (v:=?_) rfl hHeld ?_
  (try simp only [Act.put,zA,zB,zC,zD,zE,zF])
  refine tkD (i:=2) (v:=?_) rfl hHeld ?_
  (try simp only [Act.put,zA,zB,zC,zD,zE,zF])
  refine tkD (i:=4) (v:=?_) rfl hHeld ?_
  (try simp only [Act.put,zA,zB,zC,zD,zE,zF])
  refine tkD (i:=5) (v:=?_) rfl hHeld ?_
  (try simp only [Act.put,zA,zB,zC,zD,zE,zF])
  refine F1_in (i1:=7) (d1:=9) (I:=JN Y (fun _ => True)) (JN.start hHeld.1 trivial) ?_
  refine F1_step (c:=3) (I':=fun v x u => v = .int .i64 L ∧ JN Y (fun u => True) x u) rfl (by kernel_rfl) rfl rfl (jn_flt (fun _ _ _ h => h) hSY.out rfl ⟨rfl,rfl,rfl⟩) (fun v x w h => hSY.out w h.2.k) (fun xF uF hJ K hK9 => ?_) (fun v2 => ?_)
  ·rcases xF with _ | xF
   all_goals (
    (try simp only [fpt,Act.put,zA,zB,zC,zD,zE,zF])
    go_simp
    go_wp2_with fail
    refine (KR.out _ (hEl.k.trans hJ.k)).mono ?_
    rintro e u1 ⟨rfl,k⟩
    exact hK9.out _ _ _ (by first | rfl | (simp only [fpt,Act.put,zA,zB,zC,zD,zE,zF])) ⟨rfl,hJ.next k trivial⟩
   )
  refine fun xG wG hG => ?_
  obtain ⟨rfl,hG⟩:=hG
  revert xG wG
  show F1 _ _ _ _ _ _ _ _ _ _ _ (JN Y (fun _ => True))
  (try simp only [Act.put,zA,zB,zC,zD,zE,zF])
  refine F1_step (c:=6) (I':=fun v x u => JN Y (fun u => NumUp D u v xr) x u) rfl (by kernel_rfl) rfl rfl (jn_flt (fun _ _ _ h => h) hSY.out rfl ⟨rfl,rfl,rfl⟩) (fun v x w h => hSY.out w h.k) (fun xF uF hJ K hK9 => ?_) (fun v4 => ?_)
  ·rcases xF with _ | xF
   all_goals (
    (try simp only [fpt,Act.put,zA,zB,zC,zD,zE,zF])
    go_simp
    go_wp2_with fail
    refine (KL.out _ (hEl.k.trans hJ.k)).mono ?_
    rintro e u1 ⟨v,rfl,hN,k⟩
    exact hK9.out _ _ _ (by first | rfl | (simp only [fpt,Act.put,zA,zB,zC,zD,zE,zF])) (hJ.next k (hN.up (hEl.kept hJ.k).dw.1.lt))
   )
  (try simp only [Act.put,zA,zB,zC,zD,zE,zF])
  refine F1_end (.inr (by kernel_rfl)) (jn_flt (fun _ _ k h => h.kept k) hSY.out rfl ⟨rfl,rfl,rfl⟩) (fun xF uF hJ => ?_)
  obtain ⟨R,rfl,oR,cR⟩:=hJ.n _ rfl
  have kU:=hJ.k
  have hNu:=hJ.v
  clear hJ
  obtain ⟨n2,a2,l2,c2,x2,rfl⟩:=hNu.shape
  have e1:=hEl.kept kU
  have nRD : R ≠ D:=fun e => by have:=cR.c0; rw [e,e1.dw.1.1] at this; cases this
  have nRA : R ≠ A1:=fun e => by have:=e1.bx.lt; have:=(hEl.bx).lt; omega
  have nRU : R ≠ U:=fun e => by have:=cell_ltU hEl.fn; omega
  have kW:=((kU.setCell (p:=⟨R,0,none⟩) oR (.bool n2)).setCell (p:=⟨R,1,none⟩) oR (.slice a2 l2 c2)).setCell (p:=⟨R,2,none⟩) oR (.int .i64 x2)
  have e2:=hEl.kept kW
  have b2:=cR.put (.bool n2) (.slice a2 l2 c2) (.int .i64 x2)
  have u2:=hNu.set3 R cR n2 (.slice a2 l2 c2) (.int .i64 x2)
  obtain ⟨g0,g1,g2,gf⟩:=cR
  (try simp only [Act.put,zA,zB,zC,zD,zE,zF])
  refine wpAnyD_step (i:=8) (by kernel_rfl) rfl (fun K hK9 => ?_)
  go_simp
  refine hK9.out _ _ (hSY.out _ kW) (fun hH2 => ?_)
  clear hK9 K
  (try simp only [Act.put,zA,zB,zC,zD,zE,zF])
  refine wpAnyD_done (by kernel_rfl) ?_ _
  (try simp only [Act.put,zA,zB,zC,zD,zE,zF])
  go_wp2_with fail
  go_ret
  exact (show Exists _ from ⟨D,U,A1,n1,a1,l1,c1,x1,R,n2,a2,l2,c2,x2,rfl,e2,Nat.le_trans hEl.k.below.size oR,nRD,b2,u2⟩)
end Go.Proofs.YtelbefihigkhjaaGreatDoor
