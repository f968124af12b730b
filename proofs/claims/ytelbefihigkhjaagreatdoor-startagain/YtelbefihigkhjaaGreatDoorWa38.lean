/- Package start: Make,for every Init. Package start: what makes the elements goes well,kind by kind. Package start: what makes the elements goes well,kind by kind. Package start: what makes the elements goes well,kind by kind. Package start: what makes the elements goes well,kind by kind. -/
import Derived.Test.YtelbefihigkhjaaGreatDoorWa33
import Derived.Test.YtelbefihigkhjaaGreatDoorWa37
namespace Go.Proofs.YtelbefihigkhjaaGreatDoor
open Go.ChangeShapes Go.WideShapes Go.ChangeAt Go.RowKit
set_option maxHeartbeats 16000000
set_option maxRecDepth 100000
set_option linter.unusedVariables false
set_option linter.unusedSimpArgs false
/-- what makes elements: a function that goes well N times,one behind the other -/
def ElOK (nu : Nat → Nm) (N : Nat) (u0 u : World) (v : Value) : Prop:=∃ (K : Nat) (caps : Array Value) (D : Nat) (J : Nat → World → Prop),v = .func (.func K) #[] caps ∧ (∀ w,(callFunc K caps).run Tryz.prog w = .ok (.enter K caps) w) ∧ u0.heap.size ≤ D ∧ D < u.heap.size ∧ J 0 u ∧ (∀ i x,i < N → Tab x → J i x → Calls Tryz.prog K caps x fun e w' => ∃ v,e = .returned v ∧ NumAt w' v (nu i) ∧ J (i + 1) w' ∧ Gs [D] x w') ∧ (∀ i x y,J i x → Kept x y → J i y) ∧ (∀ g,g < u0.heap.size → ∀ i x o z,J i x → J i (x.setCell ⟨g,o,none⟩ z))
/-- how many are fine -/
def fine (cl : Nat → Int) : Nat → Nat
 | 0 => 0
 | k + 1 => if fine cl k = k ∧ (cl k == 3) = false then k + 1 else fine cl k
theorem fine_spec (cl : Nat → Int) (N : Nat) : fine cl N ≤ N ∧ (∀ i,i < fine cl N → (cl i == 3) = false) ∧ (fine cl N < N → (cl (fine cl N) == 3) = true):=by
 induction N with
 | zero => exact ⟨Nat.le_refl _,fun i hi => absurd hi (Nat.not_lt_zero _),fun h => absurd h (Nat.lt_irrefl _)⟩
 | succ k ih =>
  obtain ⟨h1,h2,h3⟩:=ih
  unfold fine
  by_cases h : fine cl k = k ∧ (cl k == 3) = false
  ·rw [if_pos h]
   refine ⟨Nat.le_refl _,fun i hi => ?_,fun h' => absurd h' (Nat.lt_irrefl _)⟩
   by_cases e : i = k
   ·rw [e]; exact h.2
   ·exact h2 i (by omega)
  ·rw [if_neg h]
   refine ⟨by omega,h2,fun _ => ?_⟩
   by_cases e : fine cl k = k
   ·rw [e]
    cases hc : (cl k == 3)
    ·exact absurd ⟨e,hc⟩ h
    ·rfl
   ·exact h3 (by omega)
theorem fill_any (nu : Nat → Nm) (hnu : ∀ i,vld (nu i) = true) (rows cols wd : Int) (hwd : wd = 64 ∨ wd = 32) (N : Nat) (hN : N ≤ 4096) (hN1 : 1 ≤ N) (bt cl : Nat → Int) (hbt : ∀ i,bt i = rzN wd 0 (nu i)) (hcl : ∀ i,cl i = cls (bt i) wd) (fe : Int) (hfe : fe = if fine cl N = N then 0 else 31) (u0 u : World) (v : Value) (g : Nat) (hT0 : Tab u0) (ku : Kept u0 u) (he : ElOK nu N u0 u v) (ho : Own u0 g N (List.replicate N 0)) : Calls Tryz.prog 28 #[.agg #[.int .i64 rows,.int .i64 cols,.int .i64 wd,.slice (some ⟨g,0,none⟩) N N],v] u fun e w' => e = .returned (.int .i64 fe) ∧ (fe = 0 → Own w' g N (stl N bt N)) ∧ ∃ D,u0.heap.size ≤ D ∧ Gs [D,g] u w':=by
 obtain ⟨K,caps,D,J,rfl,hcall,oD,lD,hJ,KE,sJ,jS⟩:=he
 obtain ⟨f1,f2,f3⟩:=fine_spec cl N
 have hg:=ho.lt
 have hou:=ho.kept ku
 have hT:=hT0.kept ku
 have nt : 2 ∉ [D,g]:=by
  have h1:=hT.own hou (by intro h; have:=congrArg List.length h; simp at this; omega)
  have h2:=hT0.1
  simp
  exact ⟨by omega,fun e => h1 e.symm⟩
 have hst : stl N bt 0 = List.replicate N 0:=stl_zero N bt
 refine (fill_walk K caps hcall rows cols wd g N N D (fine cl N) bt cl fe nu J u (by omega) (by rw [hst]; exact hou) hJ lD (by omega) f1 f2 ?_ (fun i x hi hG hj => KE i x hi (hT.gs hG nt) hj) (fun i x v hi hG hv => ?_) (fun i x => ?_) sJ (fun i x o z => jS g hg i x o z)).mono ?_
 ·by_cases h : fine cl N = N
  ·exact .inl ⟨h,by rw [hfe,if_pos h]⟩
  ·exact .inr ⟨by omega,f3 (by omega),by rw [hfe,if_neg h]⟩
 ·rw [hbt i]
  exact sround_any wd hwd (nu i) (hnu i) v x (hT.gs hG nt) hv
 ·rw [hcl i]
  exact class_any (bt i) wd x
 ·rintro e w' ⟨rfl,h1,h2⟩
  exact ⟨rfl,h1,D,oD,h2⟩
end Go.Proofs.YtelbefihigkhjaaGreatDoor

namespace Go.Proofs.YtelbefihigkhjaaGreatDoor
open Go.ChangeShapes Go.WideShapes Go.ChangeAt Go.RowKit
set_option maxHeartbeats 16000000
set_option maxRecDepth 100000
set_option linter.unusedVariables false
set_option linter.unusedSimpArgs false
/-- the number Z at the scale s -/
def nz (s Z : Int) : Nm:=(cfm Z s).getD ⟨false,[],0⟩
theorem nz_vz (s Z : Int) (h1 : -20000 ≤ s) (h2 : s ≤ 0) (E : Nat) (hz : Z.natAbs < 2 ^ E) (hE : E ≤ 9000) : Vz s Z (nz s Z):=by
 obtain ⟨x,hx⟩:=vz_mk s Z h1 h2 (Nat.lt_of_lt_of_le hz (Nat.pow_le_pow_right (by decide) (by unfold expS; omega)))
 have : nz s Z = x:=by unfold nz; rw [hx.eq]; rfl
 rw [this]
 exact hx
theorem mul_lt (x p : Int) (a b : Nat) (hx : x.natAbs < 2 ^ a) (hp : p.natAbs < 2 ^ b) : (x * p).natAbs < 2 ^ (a + b):=by
 rw [Int.natAbs_mul,Nat.pow_add]
 exact Nat.mul_lt_mul'' hx hp
theorem bigS (z : Int) (k : Nat) (h : z.natAbs < 2 ^ k) (hk : k ≤ 9000) : z.natAbs < 2 ^ expS:=Nat.lt_of_lt_of_le h (Nat.pow_le_pow_right (by decide) (by unfold expS; omega))
/-- times of a number below 2^2300 and parts below 2^62 -/
theorem timesN (X : Int) (x : Nm) (hx : Vz (-1074) X x) (E : Nat) (hX : X.natAbs < 2 ^ E) (hE : E ≤ 2300) (p : Int) (hp : p.natAbs < 2 ^ 62) (v1 : Value) (w : World) (hT : Tab w) (hv : NumAt w v1 x) : Calls Tryz.prog 106 #[v1,.int .i64 p] w fun e w' => ∃ v,e = .returned v ∧ New w w' v (nz (-1127) (X * p)) ∧ Kept w w':=by
 obtain ⟨e,he⟩ : ∃ e : Nat,e = 1074:=⟨_,rfl⟩
 have h1:=shl_lt p 62 e hp
 have h2:=mul_lt X p E 62 hX hp
 have hr:=nz_vz (-1127) (X * p) (by decide) (by decide) (E + 62) h2 (by omega)
 refine times_any hx p (by omega) (by omega) (by decide) (by decide) ?_ (bigS _ _ h2 (by omega)) _ hr.eq v1 w hT hv
 have : (-(-1074 : Int)).toNat = e:=by rw [he]; rfl
 rw [this]
 exact bigS _ _ h1 (by omega)
theorem ofKO (va vb : Int) (ha : -9223372036854775808 ≤ va ∧ va ≤ 9223372036854775807) (ca : cls va 64 < 3) (hb : -9223372036854775808 ≤ vb ∧ vb ≤ 9223372036854775807) (cb : cls vb 64 < 3) (w : World) (hT : Tab w) : ∀ u c y,(c = va ∧ y = ofN va 64 ∨ c = vb ∧ y = ofN vb 64) → Kept w u → Calls Tryz.prog 102 #[.int .i64 c,.int .i64 64] u fun e w' => ∃ v,e = .returned v ∧ New u w' v y ∧ Kept u w':=fun u c y h k => by
 rcases h with ⟨rfl,rfl⟩ | ⟨rfl,rfl⟩
 ·exact sof_any _ 64 ha.1 ha.2 (.inl rfl) ca u (hT.kept k)
 ·exact sof_any _ 64 hb.1 hb.2 (.inl rfl) cb u (hT.kept k)
theorem NumUp.setLow {D : Nat} {w : World} {v : Value} {x : Nm} (h : NumUp D w v x) (g o : Nat) (hg : g ≤ D) (z : Value) : NumUp D (w.setCell ⟨g,o,none⟩ z) v x:=by
 rcases h with h | ⟨q,cap,e,hq,ho,hne⟩
 ·exact .inl h
 ·exact .inr ⟨q,cap,e,hq,ho.setOther (by simp; omega) z,hne⟩
theorem cell_far (w : World) (b c o p : Nat) (v z : Value) (h : w.cell? ⟨b,p,none⟩ = some v) (hc : c ≠ b) : (w.setCell ⟨c,o,none⟩ z).cell? ⟨b,p,none⟩ = some v:=by simp [go_sem,h,hc]
theorem elok4 (kd rows cols wd va vb s t : Int) (ha : -9223372036854775808 ≤ va ∧ va ≤ 9223372036854775807) (ca : cls va 64 < 3) (hb : -9223372036854775808 ≤ vb ∧ vb ≤ 9223372036854775807) (cb : cls vb 64 < 3) (N : Nat) (hN : N ≤ 4096) (w : World) (hT : Tab w) (hk : kd = 0 ∨ kd = 1) : Calls Tryz.prog 29 #[.agg #[.int .i64 kd,.int .i64 rows,.int .i64 cols,.int .i64 wd,.int .i64 va,.int .i64 vb],.agg #[.int .i64 s,.int .i64 t,.int .i64 0]] w fun e w' => ∃ v,e = .returned v ∧ ElOK (fun _ => ofN va 64) N w w' v ∧ Kept w w':=by
 refine (els4 kd rows cols wd va vb s t _ _ hk w (ofKO va vb ha ca hb cb w hT)).mono ?_
 rintro e w' ⟨D,U,A1,n1,a1,l1,c1,x1,rfl,h⟩
 refine ⟨_,rfl,⟨111,_,D,fun i u => N3 u A1 (.bool n1) (.slice a1 l1 c1) (.int .i64 x1) ∧ NumUp D u (.agg #[.bool n1,.slice a1 l1 c1,.int .i64 x1]) (ofN va 64),rfl,fun w => rfl,h.oD,h.dw.1.lt,⟨h.bx,h.up⟩,fun i x hi hTx hJ => ?_,fun i x y hJ k => ⟨hJ.1.kept k,hJ.2.kept k⟩,fun g hg i x o z hJ => ⟨hJ.1.far g o (by have:=h.oA; omega) z,hJ.2.setLow g o (by have:=h.oD; omega) z⟩⟩,h.k⟩
 refine (elem4_walk A1 n1 a1 l1 c1 x1 x hJ.1).mono ?_
 rintro e w'' ⟨rfl,k⟩
 exact ⟨_,rfl,(hJ.2.kept k).numAt,⟨hJ.1.kept k,hJ.2.kept k⟩,k.gs _⟩
end Go.Proofs.YtelbefihigkhjaaGreatDoor

namespace Go.Proofs.YtelbefihigkhjaaGreatDoor
open Go.ChangeShapes Go.WideShapes Go.ChangeAt Go.RowKit
set_option maxHeartbeats 16000000
set_option maxRecDepth 100000
set_option linter.unusedVariables false
set_option linter.unusedSimpArgs false
theorem elok1 (kd rows cols wd va vb s t : Int) (ha : -9223372036854775808 ≤ va ∧ va ≤ 9223372036854775807) (ca : cls va 64 < 3) (hb : -9223372036854775808 ≤ vb ∧ vb ≤ 9223372036854775807) (cb : cls vb 64 < 3) (N : Nat) (hN : N ≤ 4096) (w : World) (hT : Tab w) (hk : kd = 2) : Calls Tryz.prog 29 #[.agg #[.int .i64 kd,.int .i64 rows,.int .i64 cols,.int .i64 wd,.int .i64 va,.int .i64 vb],.agg #[.int .i64 s,.int .i64 t,.int .i64 0]] w fun e w' => ∃ v,e = .returned v ∧ ElOK (fun i => nz (-1127) (zf va 64 * 2 ^ 53 + (zf vb 64 - zf va 64) * (upt s t (i : Int) : Int))) N w w' v ∧ Kept w w':=by
 obtain ⟨za,la⟩:=zf_vz va 64 (.inl rfl) ca
 obtain ⟨zb,lb⟩:=zf_vz vb 64 (.inl rfl) cb
 obtain ⟨E,hE⟩ : ∃ E : Nat,E = 2200:=⟨_,rfl⟩
 have la:=la E hE
 have lb:=lb E hE
 have ld : (zf vb 64 - zf va 64).natAbs < 2 ^ (E + 1):=by rw [Nat.pow_succ]; omega
 have zr:=nz_vz (-1074) (zf vb 64 - zf va 64) (by decide) (by decide) (E + 1) ld (by omega)
 have za2:=za.down 53 (t:=-1127) (by decide) (by decide) (by decide) (bigS _ _ (shl_lt _ E 53 la) (by omega))
 refine (els1 kd rows cols wd va vb s t _ _ (nz (-1074) (zf vb 64 - zf va 64)) hk w (ofKO va vb ha ca hb cb w hT) (fun u v1 v2 k h1 h2 => ssub_any _ _ _ v1 v2 u (hT.kept k) h1 h2 zb.ok za.ok (zb.sub za zr))).mono ?_
 rintro e w' ⟨D,U,A1,n1,a1,l1,c1,x1,R,n2,a2,l2,c2,x2,rfl,h,oR,nR,bR,uR⟩
 have hD0 : 2 ∉ [D]:=by have h1:=hT.1; have h2:=h.oD; simp; omega
 refine ⟨_,rfl,⟨104,_,D,fun i u => Dw u D s t (i : Int) ∧ u.cell? ⟨U,0,none⟩ = some (ufn D) ∧ N3 u A1 (.bool n1) (.slice a1 l1 c1) (.int .i64 x1) ∧ NumUp D u (.agg #[.bool n1,.slice a1 l1 c1,.int .i64 x1]) (ofN va 64) ∧ N3 u R (.bool n2) (.slice a2 l2 c2) (.int .i64 x2) ∧ NumUp D u (.agg #[.bool n2,.slice a2 l2 c2,.int .i64 x2]) (nz (-1074) (zf vb 64 - zf va 64)),rfl,fun w => rfl,h.oD,h.dw.1.lt,⟨by simpa using h.dw,h.fn,h.bx,h.up,bR,uR⟩,fun i x hi hTx hJ => ?_,fun i x y hJ k => ⟨hJ.1.kept k,(k.below.cell (p:=⟨U,0,none⟩) (cell_ltU hJ.2.1)).trans hJ.2.1,hJ.2.2.1.kept k,hJ.2.2.2.1.kept k,hJ.2.2.2.2.1.kept k,hJ.2.2.2.2.2.kept k⟩,fun g hg i x o z hJ => ⟨hJ.1.far ⟨g,o,none⟩ (by have:=h.oD; simp; omega) z,cell_far x U g o 0 _ z hJ.2.1 (by have:=h.oU; omega),hJ.2.2.1.far g o (by have:=h.oA; omega) z,hJ.2.2.2.1.setLow g o (by have:=h.oD; omega) z,hJ.2.2.2.2.1.far g o (by omega) z,hJ.2.2.2.2.2.setLow g o (by have:=h.oD; omega) z⟩⟩,h.k⟩
 obtain ⟨j1,j2,j3,j4,j5,j6⟩:=hJ
 have hu:=upt_lt s t (i : Int)
 obtain ⟨P,hP⟩ : ∃ P,P = (zf vb 64 - zf va 64) * (upt s t (i : Int) : Int):=⟨_,rfl⟩
 have lP : P.natAbs < 2 ^ (E + 1 + 62):=by rw [hP]; exact mul_lt _ _ _ _ ld (by omega)
 have lA : (zf va 64 * 2 ^ 53).natAbs < 2 ^ (E + 53):=shl_lt _ E 53 la
 have lS : (zf va 64 * 2 ^ 53 + P).natAbs < 2 ^ (E + 1 + 62 + 1):=by
  have h1 : (2 : Nat) ^ (E + 53) ≤ 2 ^ (E + 1 + 62):=Nat.pow_le_pow_right (by decide) (by omega)
  rw [Nat.pow_succ 2 (E + 1 + 62)]
  omega
 have zp:=nz_vz (-1127) P (by decide) (by decide) _ lP (by omega)
 have zs:=nz_vz (-1127) (zf va 64 * 2 ^ 53 + P) (by decide) (by decide) _ lS (by omega)
 dsimp only
 rw [← hP]
 refine (elem1_walk A1 R U D n1 a1 l1 c1 x1 n2 a2 l2 c2 x2 s t (i : Int) ((i + 1 : Nat) : Int) (upt s t (i : Int) : Int) (nz (-1127) P) (nz (-1127) (zf va 64 * 2 ^ 53 + P)) x j3 j5 j2 j1 h.nA nR h.nU (fun u hu => ?_) (fun u hG => ?_) (fun u v hG hv => sadd_any _ _ _ _ v u (hTx.gs hG hD0) (j4.gs hG (by simp)).numAt hv za.ok zp.ok (za2.add zp zs))).mono ?_
 ·refine (unif_any s t (i : Int) (by omega) (by omega) D u hu).mono ?_
  rintro e w2 ⟨rfl,d,g⟩
  exact ⟨rfl,d,g.gs⟩
 ·have:=timesN _ _ zr (E + 1) ld (by omega) (upt s t (i : Int) : Int) (by omega) _ u (hTx.gs hG hD0) (j6.gs hG (by simp)).numAt
  rw [← hP] at this
  exact this
 ·rintro e w'' ⟨v,rfl,hN2,hd,hG⟩
  exact ⟨v,rfl,hN2.numAt,⟨hd,(hG.cell U 0 (cell_ltU j2) (by simpa using h.nU)).trans j2,j3.gs hG (by simpa using h.nA),j4.gs hG (by simp),j5.gs hG (by simpa using nR),j6.gs hG (by simp)⟩,hG⟩
end Go.Proofs.YtelbefihigkhjaaGreatDoor

namespace Go.Proofs.YtelbefihigkhjaaGreatDoor
open Go.ChangeShapes Go.WideShapes Go.ChangeAt Go.RowKit
set_option maxHeartbeats 16000000
set_option maxRecDepth 100000
set_option linter.unusedVariables false
set_option linter.unusedSimpArgs false
theorem elok2 (kd rows cols wd va vb s t : Int) (ha : -9223372036854775808 ≤ va ∧ va ≤ 9223372036854775807) (ca : cls va 64 < 3) (hb : -9223372036854775808 ≤ vb ∧ vb ≤ 9223372036854775807) (cb : cls vb 64 < 3) (N : Nat) (hN : N ≤ 4096) (w : World) (hT : Tab w) (fan L : Int) (hk : kd = 3 ∧ IntKind.i64.wrap (rows + cols) = fan ∨ kd = 4 ∧ rows = fan) (hwd : wd = 64 ∨ wd = 32) (hL : -9223372036854775808 ≤ L ∧ L ≤ 9223372036854775807) (cL : cls L wd < 3) (KR : ∀ u,Tab u → Calls Tryz.prog 107 #[.int .i64 fan,.int .i64 wd] u fun e w' => e = .returned (.int .i64 L) ∧ Kept u w') : Calls Tryz.prog 29 #[.agg #[.int .i64 kd,.int .i64 rows,.int .i64 cols,.int .i64 wd,.int .i64 va,.int .i64 vb],.agg #[.int .i64 s,.int .i64 t,.int .i64 0]] w fun e w' => ∃ v,e = .returned v ∧ ElOK (fun i => nz (-1127) (zf L wd * (2 * (upt s t (i : Int) : Int) - 9007199254740992))) N w w' v ∧ Kept w w':=by
 obtain ⟨zl,ll⟩:=zf_vz L wd hwd cL
 obtain ⟨E,hE⟩ : ∃ E : Nat,E = 2200:=⟨_,rfl⟩
 have ll:=ll E hE
 refine (els2 kd rows cols wd va vb s t _ _ (ofN L wd) fan L hk w (ofKO va vb ha ca hb cb w hT) (fun u k => KR u (hT.kept k)) (fun u k => sof_any L wd hL.1 hL.2 hwd cL u (hT.kept k))).mono ?_
 rintro e w' ⟨D,U,A1,n1,a1,l1,c1,x1,R,n2,a2,l2,c2,x2,rfl,h,oR,nR,bR,uR⟩
 have hD0 : 2 ∉ [D]:=by have h1:=hT.1; have h2:=h.oD; simp; omega
 refine ⟨_,rfl,⟨108,_,D,fun i u => Dw u D s t (i : Int) ∧ u.cell? ⟨U,0,none⟩ = some (ufn D) ∧ N3 u R (.bool n2) (.slice a2 l2 c2) (.int .i64 x2) ∧ NumUp D u (.agg #[.bool n2,.slice a2 l2 c2,.int .i64 x2]) (ofN L wd),rfl,fun w => rfl,h.oD,h.dw.1.lt,⟨by simpa using h.dw,h.fn,bR,uR⟩,fun i x hi hTx hJ => ?_,fun i x y hJ k => ⟨hJ.1.kept k,(k.below.cell (p:=⟨U,0,none⟩) (cell_ltU hJ.2.1)).trans hJ.2.1,hJ.2.2.1.kept k,hJ.2.2.2.kept k⟩,fun g hg i x o z hJ => ⟨hJ.1.far ⟨g,o,none⟩ (by have:=h.oD; simp; omega) z,cell_far x U g o 0 _ z hJ.2.1 (by have:=h.oU; omega),hJ.2.2.1.far g o (by omega) z,hJ.2.2.2.setLow g o (by have:=h.oD; omega) z⟩⟩,h.k⟩
 obtain ⟨j1,j2,j3,j4⟩:=hJ
 have hu:=upt_lt s t (i : Int)
 obtain ⟨p,hp⟩ : ∃ p,p = 2 * (upt s t (i : Int) : Int) - 9007199254740992:=⟨_,rfl⟩
 have hl : p.natAbs < 2 ^ 62:=by omega
 dsimp only
 rw [← hp]
 obtain ⟨u0,hu0⟩ : ∃ u0 : Int,u0 = (upt s t (i : Int) : Int):=⟨_,rfl⟩
 have hu1 : 0 ≤ u0 ∧ u0 ≤ 9007199254740992:=by omega
 rw [← hu0] at hp
 have b1 : IntKind.i64.wrap (2 * u0) = 2 * u0:=by rw [wrap_i64]; omega
 have b2 : IntKind.i64.wrap (2 * u0 - 9007199254740992) = p:=by rw [wrap_i64]; omega
 refine (elem2_walk R U D n2 a2 l2 c2 x2 s t (i : Int) ((i + 1 : Nat) : Int) u0 (2 * u0) p (nz (-1127) (zf L wd * p)) b1 b2 x j3 j2 j1 nR h.nU (fun u hu => ?_) (fun u hG => ?_)).mono ?_
 ·refine (unif_any s t (i : Int) (by omega) (by omega) D u hu).mono ?_
  rintro e w2 ⟨rfl,d,g⟩
  exact ⟨by rw [hu0],d,g.gs⟩
 ·exact timesN _ _ zl E ll (by omega) p hl _ u (hTx.gs hG hD0) (j4.gs hG (by simp)).numAt
 ·rintro e w'' ⟨v,rfl,hN2,hd,hG⟩
  exact ⟨v,rfl,hN2.numAt,⟨hd,(hG.cell U 0 (cell_ltU j2) (by simpa using h.nU)).trans j2,j3.gs hG (by simpa using nR),j4.gs hG (by simp)⟩,hG⟩
end Go.Proofs.YtelbefihigkhjaaGreatDoor

namespace Go.Proofs.YtelbefihigkhjaaGreatDoor
open Go.ChangeShapes Go.WideShapes Go.ChangeAt Go.RowKit
set_option maxHeartbeats 16000000
set_option maxRecDepth 100000
set_option linter.unusedVariables false
set_option linter.unusedSimpArgs false
theorem elok3 (kd rows cols wd va vb s t : Int) (ha : -9223372036854775808 ≤ va ∧ va ≤ 9223372036854775807) (ca : cls va 64 < 3) (hb : -9223372036854775808 ≤ vb ∧ vb ≤ 9223372036854775807) (cb : cls vb 64 < 3) (N : Nat) (hN : N ≤ 4096) (w : World) (hT : Tab w) (hk : kd = 5) : Calls Tryz.prog 29 #[.agg #[.int .i64 kd,.int .i64 rows,.int .i64 cols,.int .i64 wd,.int .i64 va,.int .i64 vb],.agg #[.int .i64 s,.int .i64 t,.int .i64 0]] w fun e w' => ∃ v,e = .returned v ∧ ElOK (fun i => nz (-1127) (zf va 64 * (sup s t (12 * (i : Int)) 12 - 54043195528445952))) N w w' v ∧ Kept w w':=by
 obtain ⟨za,la⟩:=zf_vz va 64 (.inl rfl) ca
 obtain ⟨E,hE⟩ : ∃ E : Nat,E = 2200:=⟨_,rfl⟩
 have la:=la E hE
 refine (els3 kd rows cols wd va vb s t _ _ hk w (ofKO va vb ha ca hb cb w hT)).mono ?_
 rintro e w' ⟨D,U,A1,n1,a1,l1,c1,x1,rfl,h⟩
 have hD0 : 2 ∉ [D]:=by have h1:=hT.1; have h2:=h.oD; simp; omega
 refine ⟨_,rfl,⟨109,_,D,fun i u => Dw u D s t (12 * (i : Int)) ∧ u.cell? ⟨U,0,none⟩ = some (ufn D) ∧ N3 u A1 (.bool n1) (.slice a1 l1 c1) (.int .i64 x1) ∧ NumUp D u (.agg #[.bool n1,.slice a1 l1 c1,.int .i64 x1]) (ofN va 64),rfl,fun w => rfl,h.oD,h.dw.1.lt,⟨by simpa using h.dw,h.fn,h.bx,h.up⟩,fun i x hi hTx hJ => ?_,fun i x y hJ k => ⟨hJ.1.kept k,(k.below.cell (p:=⟨U,0,none⟩) (cell_ltU hJ.2.1)).trans hJ.2.1,hJ.2.2.1.kept k,hJ.2.2.2.kept k⟩,fun g hg i x o z hJ => ⟨hJ.1.far ⟨g,o,none⟩ (by have:=h.oD; simp; omega) z,cell_far x U g o 0 _ z hJ.2.1 (by have:=h.oU; omega),hJ.2.2.1.far g o (by have:=h.oA; omega) z,hJ.2.2.2.setLow g o (by have:=h.oD; omega) z⟩⟩,h.k⟩
 obtain ⟨j1,j2,j3,j4⟩:=hJ
 have hr:=sup_rng s t (12 * (i : Int)) 12
 obtain ⟨p,hp⟩ : ∃ p,p = sup s t (12 * (i : Int)) 12 - 54043195528445952:=⟨_,rfl⟩
 have hl : p.natAbs < 2 ^ 62:=by omega
 dsimp only
 rw [← hp]
 refine (elem3_walk A1 U D n1 a1 l1 c1 x1 s t (12 * (i : Int)) (12 * ((i + 1 : Nat) : Int)) p (nz (-1127) (zf va 64 * p)) x j3 j2 j1 h.nA h.nU (fun u hu => ?_) (fun u hG => ?_)).mono ?_
 ·have:=normal_any s t (12 * (i : Int)) (by omega) (by omega) D u hu
  rw [show 12 * (i : Int) + 12 = 12 * ((i + 1 : Nat) : Int) by omega,← hp] at this
  exact this
 ·exact timesN _ _ za E la (by omega) p hl _ u (hTx.gs hG hD0) (j4.gs hG (by simp)).numAt
 ·rintro e w'' ⟨v,rfl,hN2,hd,hG⟩
  exact ⟨v,rfl,hN2.numAt,⟨hd,(hG.cell U 0 (cell_ltU j2) (by simpa using h.nU)).trans j2,j3.gs hG (by simpa using h.nA),j4.gs hG (by simp)⟩,hG⟩
end Go.Proofs.YtelbefihigkhjaaGreatDoor
