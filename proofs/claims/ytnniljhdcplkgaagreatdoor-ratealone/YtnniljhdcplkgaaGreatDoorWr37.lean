/- exact.RootQuot of any two valid numbers above 0,in both widths,in all three ways. Package sure: exact numbers where nothing is refused. -/
import Derived.Test.YtnniljhdcplkgaaGreatDoorWr36
import Derived.Test.YtnniljhdcplkgaaGreatDoorWr33
import Derived.Test.YtnniljhdcplkgaaGreatDoorWr31
import Derived.Test.YtnniljhdcplkgaaGreatDoorWr18
namespace Go.Proofs.YtnniljhdcplkgaaGreatDoor
open Go.ChangeShapes Go.WideShapes Go.ChangeAt Go.RowKit
set_option maxHeartbeats 16000000
set_option maxRecDepth 100000
set_option linter.unusedVariables false
set_option linter.unusedSimpArgs false
/- what is under the root: a number of 119 to 122 bits -/
theorem rq_under (V : Nat) (x : Int) (hx : x = 0 ∨ x = 1) (h1 : 2 ^ 119 ≤ V) (h2 : V < 2 ^ 121) : ∃ r,frm false V x = some r ∧ vld r = true ∧ r.neg = false ∧ r.mag ≠ [] ∧ 0 ≤ r.exp ∧ nv r.mag * 2 ^ r.exp.toNat = V * 2 ^ x.toNat ∧ 120 ≤ r.exp + (bl (nv r.mag) : Int) ∧ r.exp + (bl (nv r.mag) : Int) ≤ 122:=by
 have h0 : V ≠ 0:=fun h => by rw [h] at h1; exact absurd h1 (by decide)
 obtain ⟨k,rfl,hk⟩ : ∃ k : Nat,x = (k : Int) ∧ k ≤ 1:=by rcases hx with rfl | rfl; exact ⟨0,rfl,by omega⟩; exact ⟨1,rfl,by omega⟩
 rw [Int.toNat_natCast]
 have hsh:=frm_shift false V k 0 h0
 rw [Int.zero_add] at hsh
 have hlt : V * 2 ^ k < 2 ^ 122:=by
  have : 2 ^ k ≤ 2:=by rcases (show k = 0 ∨ k = 1 by omega) with rfl | rfl <;> decide
  have:=Nat.mul_le_mul_left V this
  omega
 have hge : 2 ^ 119 ≤ V * 2 ^ k:=Nat.le_trans h1 (Nat.le_mul_of_pos_right V (Nat.two_pow_pos k))
 obtain ⟨P,hP⟩ : ∃ P,V * 2 ^ k = P:=⟨_,rfl⟩
 rw [hP] at hlt hge hsh ⊢
 obtain ⟨r,e,l,v⟩:=cfm_lies 0 122 (by decide) (by decide) (by decide) (P : Int) (by rw [Int.natAbs_natCast]; exact hlt)
 have e2 : frm false P 0 = some r:=by
  rw [frm_cfm]
  exact e
 have hne : r.mag ≠ []:=fun h => by
  unfold vz at v
  rw [h] at v
  have : (P : Int) = 0:=by rw [← v]; cases r.neg <;> simp [sg,nv]
  omega
 have hl:=l.low hne
 have hng : r.neg = false:=by
  cases hg : r.neg
  ·rfl
  ·unfold vz at v
   rw [hg] at v
   simp only [sg,if_true] at v
   have : (0 : Int) ≤ (nv r.mag : Int) * 2 ^ (r.exp - 0).toNat:=Int.mul_nonneg (by omega) (Int.le_of_lt (Int.pow_pos (by decide)))
   omega
 have hv : nv r.mag * 2 ^ r.exp.toNat = P:=by
  unfold vz at v
  rw [hng,Int.sub_zero] at v
  simp only [sg] at v
  have : ((nv r.mag * 2 ^ r.exp.toNat : Nat) : Int) = (P : Int):=by push_cast; exact v
  omega
 have hn0:=nv_ne r l.ok hne
 have hb:=bl_mul (nv r.mag) r.exp.toNat hn0
 rw [hv] at hb
 have hb1 : 119 < bl P:=by
  obtain ⟨b1,b2,b3⟩:=bl_pos P (by omega)
  apply Decidable.byContradiction
  intro hc
  have : 2 ^ bl P ≤ 2 ^ 119:=Nat.pow_le_pow_right (by decide) (by omega)
  omega
 have hb2:=bl_le P 122 hlt
 exact ⟨r,by rw [← hsh]; exact e2,l.ok,hng,hne,hl,hv,by omega,by omega⟩
theorem rootquot_any (n : Int) (hn : n = 64 ∨ n = 32) (a b : Nm) (ha : vld a = true) (hb : vld b = true) (ham : a.mag ≠ []) (hbm : b.mag ≠ []) (han : a.neg = false) (hbn : b.neg = false) : ∃ r h l rs ex un m k F,frm false (dV 4 a b) (dex 4 a b % 2) = some r ∧ nv r.mag * 2 ^ r.exp.toNat = dV 4 a b * 2 ^ (dex 4 a b % 2).toNat ∧ 0 ≤ r.exp ∧ Rtl r h l rs ∧ ex = rlast r / 2 + dex 4 a b / 2 ∧ dex 4 a b / 2 + 4 ≤ ex ∧ ex ≤ dex 4 a b / 2 + 5 ∧ Ldz n h 56 ex un m k F ∧ ∀ (way : Int),(way = 0 ∨ way = 1 ∨ way = 2) → ∀ (a1 a2 : Option Addr) (c1 c2 : Nat) (w : World),Tab w → Sl w (.slice a1 a.mag.length c1) a.mag → Sl w (.slice a2 b.mag.length c2) b.mag → Calls Tryz.prog 120 #[.agg #[.bool a.neg,.slice a1 a.mag.length c1,.int .i64 a.exp],.agg #[.bool b.neg,.slice a2 b.mag.length c2,.int .i64 b.exp],.int .i64 n,.int .i64 way] w fun e w' => e = .returned (.tuple #[.int .i64 (pz n (kyz false (mgz way false (ifn n) F (decide (k % 2 = 1)) (decide (h / 2 ^ m % 2 = 1)) ((rs || drs 4 a b) || h % 2 ^ m != 0)))),.bool (odz way false (ifn n) F (decide (k % 2 = 1)) (decide (h / 2 ^ m % 2 = 1)) ((rs || drs 4 a b) || h % 2 ^ m != 0)),.int .i64 0]) ∧ Kept w w':=by
 obtain ⟨hlen1,hDg1⟩:=vld_dg a.neg a.mag a.exp ha
 obtain ⟨hlen2,hDg2⟩:=vld_dg b.neg b.mag b.exp hb
 have KR : ∀ (way : Int),(way = 0 ∨ way = 1 ∨ way = 2) → ∀ (a1 a2 : Option Addr) (c1 c2 : Nat) (w : World),Sl w (.slice a1 a.mag.length c1) a.mag → Sl w (.slice a2 b.mag.length c2) b.mag → Hid (Calls Tryz.prog 98 #[.int .i64 n,.int .i64 way,.slice (some ⟨w.heap.size + 2,0,none⟩) 2 2] (((w.alloc (.cells #[.bool a.neg,.slice a1 a.mag.length c1,.int .i64 a.exp] 43)).alloc (.cells #[.bool b.neg,.slice a2 b.mag.length c2,.int .i64 b.exp] 43)).alloc (.cells (pairC a.neg (.slice a1 a.mag.length c1) a.exp b.neg (.slice a2 b.mag.length c2) b.exp) 43)) fun e w' => e = .returned (.tuple #[.agg #[.int .i64 n,.int .i64 (kprec n),.int .i64 (kleast n),.int .i64 (kinf n),.func (.func (wfv way)) #[] #[]],.int .i64 0]) ∧ Kept (((w.alloc (.cells #[.bool a.neg,.slice a1 a.mag.length c1,.int .i64 a.exp] 43)).alloc (.cells #[.bool b.neg,.slice a2 b.mag.length c2,.int .i64 b.exp] 43)).alloc (.cells (pairC a.neg (.slice a1 a.mag.length c1) a.exp b.neg (.slice a2 b.mag.length c2) b.exp) 43)) w'):=fun way hw a1 a2 c1 c2 w h1 h2 => by
  refine roundingOf_ok n way hn hw _ _ (fun u k => ?_)
  have hK : Kept w (((w.alloc (.cells #[.bool a.neg,.slice a1 a.mag.length c1,.int .i64 a.exp] 43)).alloc (.cells #[.bool b.neg,.slice a2 b.mag.length c2,.int .i64 b.exp] 43)).alloc (.cells (pairC a.neg (.slice a1 a.mag.length c1) a.exp b.neg (.slice a2 b.mag.length c2) b.exp) 43)):=(((Kept.refl w).alloc _ _).alloc _ _).alloc _ _
  have hb' : w.heap.size + 2 < (((w.alloc (.cells #[.bool a.neg,.slice a1 a.mag.length c1,.int .i64 a.exp] 43)).alloc (.cells #[.bool b.neg,.slice a2 b.mag.length c2,.int .i64 b.exp] 43)).alloc (.cells (pairC a.neg (.slice a1 a.mag.length c1) a.exp b.neg (.slice a2 b.mag.length c2) b.exp) 43)).heap.size:=by simp
  have:=allValid_2 u (w.heap.size + 2) 2 a.neg b.neg a1 a2 a.mag.length c1 b.mag.length c2 a.exp b.exp true true (Nat.lt_of_lt_of_le hb' k.below.size) ((k.below.cell (p:=⟨w.heap.size + 2,0,none⟩) hb').trans (by simp [go_sem])) ((k.below.cell (p:=⟨w.heap.size + 2,1,none⟩) hb').trans (by simp [go_sem])) ((k.below.cell (p:=⟨w.heap.size + 2,2,none⟩) hb').trans (by simp [go_sem])) ((k.below.cell (p:=⟨w.heap.size + 2,3,none⟩) hb').trans (by simp [go_sem])) ((k.below.cell (p:=⟨w.heap.size + 2,4,none⟩) hb').trans (by simp [go_sem])) ((k.below.cell (p:=⟨w.heap.size + 2,5,none⟩) hb').trans (by simp [go_sem])) (fun v kv => ?_) (fun v kv => ?_)
  ·exact this
  ·have:=xvalid_any a hDg1.rg (by omega) (.agg #[.bool a.neg,.slice a1 a.mag.length c1,.int .i64 a.exp]) v ⟨_,rfl,((h1.kept hK).kept k).kept kv⟩
   rw [ha] at this
   exact this
  ·have:=xvalid_any b hDg2.rg (by omega) (.agg #[.bool b.neg,.slice a2 b.mag.length c2,.int .i64 b.exp]) v ⟨_,rfl,((h2.kept hK).kept k).kept kv⟩
   rw [hb] at this
   exact this
 have hl1:=List.length_pos_iff.2 ham
 have hl2:=List.length_pos_iff.2 hbm
 have KG : ∀ (x : Nm),x.neg = false → 0 < x.mag.length → ∀ (a2 : Option Addr) (c2 : Nat) (w : World),Calls Tryz.prog 99 #[.agg #[.bool x.neg,.slice a2 x.mag.length c2,.int .i64 x.exp]] w fun e w' => e = .returned (.int .i64 1) ∧ Kept w w':=fun x hx hl a2 c2 w => by
  have:=signOf_any x.neg a2 x.mag.length c2 x.exp w
  rw [if_neg (by omega),hx,if_neg (by decide)] at this
  rw [hx]
  exact this
 obtain ⟨p1,p2,p3,p4,p5,p6⟩:=vld_some a.neg a.mag a.exp ham ha
 obtain ⟨q1,q2,q3,q4,q5,q6⟩:=vld_some b.neg b.mag b.exp hbm hb
 have hba:=bl_le _ _ (nv_lt a.mag p2)
 have hbb:=bl_le _ _ (nv_lt b.mag q2)
 obtain ⟨g1,g2⟩:=dV_bounds 4 (by decide) a b ha hb ham hbm
 have hexr : -2900000 ≤ dex 4 a b ∧ dex 4 a b ≤ 2900000:=by unfold dex; omega
 obtain ⟨dx,hdx⟩ : ∃ dx,dex 4 a b = dx:=⟨_,rfl⟩
 have hm2 : dx % 2 = 0 ∨ dx % 2 = 1:=by omega
 obtain ⟨V,hV⟩ : ∃ V,dV 4 a b = V:=⟨_,rfl⟩
 rw [hV] at g1 g2
 rw [hdx] at hexr
 obtain ⟨r,hr,rv,rn,rne,re,rval,rb1,rb2⟩:=rq_under V (dx % 2) hm2 g1 g2
 obtain ⟨h,l,H⟩:=rtl_of r rv rne
 have hrl : 4 ≤ rlast r / 2 ∧ rlast r / 2 ≤ 5:=by unfold rlast rfst; omega
 obtain ⟨ex,hex⟩ : ∃ ex,ex = rlast r / 2 + dx / 2:=⟨_,rfl⟩
 obtain ⟨un,hun⟩ : ∃ un,max (ex + ((56 : Nat) : Int) - kprec n) (kleast n) = un:=⟨_,rfl⟩
 obtain ⟨k1,k2,k3⟩:=kp_toNat n hn
 obtain ⟨m,hm⟩ : ∃ m : Nat,un - ex = (m : Int) + 1:=⟨(un - ex - 1).toNat,by omega⟩
 have L : Ldz n h 56 ex un m (h / 2 ^ (m + 1)) ((un - kleast n).toNat * cbn n + h / 2 ^ (m + 1)):=⟨hun.symm,hm,rfl,rfl⟩
 rw [hdx,hV]
 refine ⟨r,h,l,_,ex,un,m,_,_,hr,rval,re,H,hex,by omega,by omega,L,fun way hw a1 a2 c1 c2 w hT h1 h2 => ?_⟩
 have hroot:=root_any r rv rne h l _ H
 have hLL : (dvl V 4 5).length = 5:=dvl_len _ _ _
 have hnv : nv (dvl V 4 5) = V:=by
  rw [dvl_full]
  exact nv_dgs V 5 (Nat.lt_trans g2 (by decide))
 have KQ : ∀ u,Kept w u → Calls Tryz.prog 143 #[.agg #[.bool a.neg,.slice a1 a.mag.length c1,.int .i64 a.exp],.agg #[.bool b.neg,.slice a2 b.mag.length c2,.int .i64 b.exp]] u fun e w' => e = .returned (.agg #[.bool false,.int .i64 (h : Int),.int .i64 ex,.bool ((decide (l ≠ 0) || decide (r.exp < rlast r)) || drs 4 a b)]) ∧ Kept u w':=fun u ku => by
  rw [hex]
  refine rootq_walk a.neg b.neg a1 a2 a.mag.length c1 b.mag.length c2 hl1 a.exp b.exp dx (dx % 2) (dx / 2) (by omega) rfl rfl (drs 4 a b) (decide (l ≠ 0) || decide (r.exp < rlast r)) (dvl V 4 5) hLL (dvl_dg _ _ _) r (by rw [hnv]; exact hr) h (rlast r / 2) (by omega) u (hT.kept ku) (fun u2 k2 => ?_) (fun ao c u2 hs => hroot ao c u2 hs)
  have:=divided_any 4 (by decide) (by decide) a b ha hb ham hbm a1 a2 c1 c2 u2 ((h1.kept ku).kept k2) ((h2.kept ku).kept k2)
  rw [hdx,hV] at this
  exact this
 exact xrootq way _ n _ _ _ a.neg b.neg a1 a2 a.mag.length c1 b.mag.length c2 a.exp b.exp _ 1 1 1 _ (by decide) (by decide) (by decide) _ _ _ _ w (KR way hw a1 a2 c1 c2 w h1 h2) (fun u _ => KG a han hl1 a1 c1 u) (fun u _ => KG b hbn hl2 a2 c2 u) KQ (fun u ku => ldround way hw n hn false h 56 ex _ un m _ _ L H.low H.high (by decide) (by decide) (by omega) (by omega) _ _ _ rfl rfl rfl u (hT.kept ku))
end Go.Proofs.YtnniljhdcplkgaaGreatDoor

namespace Go.Proofs.YtnniljhdcplkgaaGreatDoor
open Go.ChangeShapes Go.WideShapes Go.ChangeAt Go.RowKit
set_option maxHeartbeats 16000000
set_option maxRecDepth 100000
set_option linter.unusedVariables false
set_option linter.unusedSimpArgs false
structure N3 (w : World) (b : Nat) (u v x : Value) : Prop where
 c0 : w.cell? ⟨b,0,none⟩ = some u
 c1 : w.cell? ⟨b,1,none⟩ = some v
 c2 : w.cell? ⟨b,2,none⟩ = some x
 fz : ∀ o,w.frozen? ⟨b,o,none⟩ = false
theorem N3.new (w : World) (u v x : Value) (t : TypeId) : N3 (w.alloc (.cells #[u,v,x] t)) w.heap.size u v x:=⟨by simp [go_sem],by simp [go_sem],by simp [go_sem],fun o => by simp [go_sem]⟩
theorem N3.lt {w : World} {b : Nat} {u v x : Value} (h : N3 w b u v x) : b < w.heap.size:=World.block_lt_of_cell? _ _ h.c0
theorem N3.kept {w w' : World} {b : Nat} {u v x : Value} (h : N3 w b u v x) (k : Kept w w') : N3 w' b u v x :=
 ⟨(k.below.cell (p:=⟨b,0,none⟩) h.lt).trans h.c0,(k.below.cell (p:=⟨b,1,none⟩) h.lt).trans h.c1,(k.below.cell (p:=⟨b,2,none⟩) h.lt).trans h.c2,fun o => (k.frozen _).trans (h.fz o)⟩
theorem N3.alloc {w : World} {b : Nat} {u v x : Value} (h : N3 w b u v x) (c : Array Value) (t : TypeId) : N3 (w.alloc (.cells c t)) b u v x:=h.kept ((Kept.refl w).alloc c t)
theorem sof_walk (b n : Int) (r : Nm) (w : World)
  (KE : Hid (∀ u,Kept w u → Calls Tryz.prog 73 #[.int .i64 b,.int .i64 n] u fun e w' => ∃ v,e = .returned (.tuple #[v,.int .i64 0]) ∧ New u w' v r ∧ Kept u w')) :
  Calls Tryz.prog 42 #[.int .i64 b,.int .i64 n] w fun e w' => ∃ v,e = .returned v ∧ New w w' v r ∧ Kept w w':=by
 obtain ⟨X,hX⟩ : ∃ X,X = w.alloc (.cells #[.bool false,.slice none 0 0,.int .i64 0] 43):=⟨_,rfl⟩
 have hK : Kept w X:=by rw [hX]; exact (Kept.refl w).alloc _ _
 have hXs : X.heap.size = w.heap.size + 1:=by rw [hX]; simp
 have hP0 : N3 X (w.heap.size) (.bool false) (.slice none 0 0) (.int .i64 0):=by
  rw [hX]
  have:=(N3.new (w) (.bool false) (.slice none 0 0) (.int .i64 0) 43)
  simpa using this
 obtain ⟨B0,hB0⟩ : ∃ B,B = w.heap.size:=⟨_,rfl⟩
 rw [← hB0] at hP0
 have oB : Hid (w.heap.size ≤ B0 ∧ B0 < X.heap.size):=(show _ ∧ _ from by omega)
 have HR : Hid (∀ u,Kept X u → N3 u B0 (.bool false) (.slice none 0 0) (.int .i64 0)):=fun u k => hP0.kept k
 go_enter Tryz.func42,Tryz.ntmps42
 go_upto_region 1 with fail
 rw [← hX,← hB0]
 clear hX hXs hB0
 obtain ⟨p00,p01,p02,p0f⟩:=hP0
 go_wp2_with (first | (go_at_call 73; refine (KE.out _ hK).mono ?_; rintro e w2 ⟨v,rfl,hN,k2⟩; obtain ⟨vn,va,vl,vc,vx,rfl⟩:=hN.shape; clear p00 p01 p02 p0f; obtain ⟨f0,f1,f2,f3⟩:=HR.out _ k2; have hlt : B0 < w2.heap.size:=(HR.out _ k2).lt; have hne : B0 ≠ w2.heap.size:=Nat.ne_of_lt hlt))
 have:=res_done B0 oB.out.1 oB.out.2 hK hN k2 (.bool vn) (.slice va vl vc) (.int .i64 vx)
 exact bodyPost_ret (v:=.agg #[.bool vn,.slice va vl vc,.int .i64 vx]) (by simp [results,Tryz.results42,go_sem,f0,f1,f2,hlt]) rfl ⟨_,rfl,this.1.kept ((Kept.refl _).alloc _ _),this.2.alloc _ _⟩
theorem sint_walk (n : Int) (r : Nm) (w : World)
  (KE : Hid (∀ u,Kept w u → Calls Tryz.prog 43 #[.int .i64 n] u fun e w' => ∃ v,e = .returned (v) ∧ New u w' v r ∧ Kept u w')) :
  Calls Tryz.prog 23 #[.int .i64 n] w fun e w' => ∃ v,e = .returned v ∧ New w w' v r ∧ Kept w w':=by
 obtain ⟨X,hX⟩ : ∃ X,X = w.alloc (.cells #[.bool false,.slice none 0 0,.int .i64 0] 43):=⟨_,rfl⟩
 have hK : Kept w X:=by rw [hX]; exact (Kept.refl w).alloc _ _
 have hXs : X.heap.size = w.heap.size + 1:=by rw [hX]; simp
 have hP0 : N3 X (w.heap.size) (.bool false) (.slice none 0 0) (.int .i64 0):=by
  rw [hX]
  have:=(N3.new (w) (.bool false) (.slice none 0 0) (.int .i64 0) 43)
  simpa using this
 obtain ⟨B0,hB0⟩ : ∃ B,B = w.heap.size:=⟨_,rfl⟩
 rw [← hB0] at hP0
 have oB : Hid (w.heap.size ≤ B0 ∧ B0 < X.heap.size):=(show _ ∧ _ from by omega)
 have HR : Hid (∀ u,Kept X u → N3 u B0 (.bool false) (.slice none 0 0) (.int .i64 0)):=fun u k => hP0.kept k
 go_enter Tryz.func23,Tryz.ntmps23
 go_upto_region 1 with fail
 rw [← hX,← hB0]
 clear hX hXs hB0
 obtain ⟨p00,p01,p02,p0f⟩:=hP0
 go_wp2_with (first | (go_at_call 43; refine (KE.out _ hK).mono ?_; rintro e w2 ⟨v,rfl,hN,k2⟩; obtain ⟨vn,va,vl,vc,vx,rfl⟩:=hN.shape; clear p00 p01 p02 p0f; obtain ⟨f0,f1,f2,f3⟩:=HR.out _ k2; have hlt : B0 < w2.heap.size:=(HR.out _ k2).lt; have hne : B0 ≠ w2.heap.size:=Nat.ne_of_lt hlt))
 have:=res_done B0 oB.out.1 oB.out.2 hK hN k2 (.bool vn) (.slice va vl vc) (.int .i64 vx)
 exact bodyPost_ret (v:=.agg #[.bool vn,.slice va vl vc,.int .i64 vx]) (by simp [results,Tryz.results23,go_sem,f0,f1,f2,hlt]) rfl ⟨_,rfl,this.1,this.2⟩
theorem sround_walk (n1 : Bool) (a1 : Option Addr) (l1 c1 : Nat) (x1 : Int) (n s q : Int) (o : Bool) (w : World)
  (KE : Hid (∀ u,Kept w u → Calls Tryz.prog 118 #[.agg #[.bool n1,.slice a1 l1 c1,.int .i64 x1],.int .i64 n,.int .i64 0] u fun e w' => e = .returned (.tuple #[.int .i64 s,.bool o,.int .i64 q]) ∧ Kept u w')) :
  Calls Tryz.prog 90 #[.agg #[.bool n1,.slice a1 l1 c1,.int .i64 x1],.int .i64 n] w fun e w' => e = .returned (.int .i64 s) ∧ Kept w w':=by
 obtain ⟨X,hX⟩ : ∃ X,X = w.alloc (.cells #[.bool n1,.slice a1 l1 c1,.int .i64 x1] 43):=⟨_,rfl⟩
 have hK : Kept w X:=by rw [hX]; exact (Kept.refl w).alloc _ _
 have hXs : X.heap.size = w.heap.size + 1:=by rw [hX]; simp
 have hP0 : N3 X (w.heap.size) (.bool n1) (.slice a1 l1 c1) (.int .i64 x1):=by
  rw [hX]
  have:=(N3.new (w) (.bool n1) (.slice a1 l1 c1) (.int .i64 x1) 43)
  simpa using this
 obtain ⟨B0,hB0⟩ : ∃ B,B = w.heap.size:=⟨_,rfl⟩
 rw [← hB0] at hP0
 have oB : Hid (w.heap.size ≤ B0 ∧ B0 < X.heap.size):=(show _ ∧ _ from by omega)
 go_enter Tryz.func90,Tryz.ntmps90
 go_upto_region 1 with fail
 rw [← hX,← hB0]
 clear hX hXs hB0
 obtain ⟨p00,p01,p02,p0f⟩:=hP0
 go_wp2_with (first | (go_at_call 118; refine (KE.out _ hK).mono ?_; rintro e w2 ⟨rfl,k2⟩))
 go_ret
 exact ⟨rfl,hK.trans k2⟩
end Go.Proofs.YtnniljhdcplkgaaGreatDoor
