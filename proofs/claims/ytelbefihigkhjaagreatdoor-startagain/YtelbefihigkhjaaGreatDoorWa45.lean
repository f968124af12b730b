/- exact.RootQuot of any two valid numbers above 0,in both widths,in all three ways. Package sure: RootQuot; package start: the float nearest to the root of 6 by n,for every n that comes up,in both widths. -/
import Derived.Test.YtelbefihigkhjaaGreatDoorWa44
import Derived.Test.YtelbefihigkhjaaGreatDoorWa24
import Derived.Test.YtelbefihigkhjaaGreatDoorWa27
namespace Go.Proofs.YtelbefihigkhjaaGreatDoor
open Go.ChangeShapes Go.WideShapes Go.ChangeAt Go.RowKit
set_option maxHeartbeats 16000000
set_option maxRecDepth 100000
set_option linter.unusedVariables false
set_option linter.unusedSimpArgs false
/- what is under the root: a number of 119 to 122 bits -/
theorem rq_under (V : Nat) (x : Int) (hx : x = 0 ∨ x = 1) (h1 : 2 ^ 119 ≤ V) (h2 : V < 2 ^ 121) : ∃ r,frm false V x = some r ∧ vld r = true ∧ r.neg = false ∧ r.mag ≠ [] ∧ 0 ≤ r.exp ∧ nv r.mag * 2 ^ r.exp.toNat = V * 2 ^ x.toNat ∧ 120 ≤ r.exp + (bl (nv r.mag) : Int) ∧ r.exp + (bl (nv r.mag) : Int) ≤ 122:=by
 have h0 : V ≠ 0:=fun h => by rw [h] at h1; exact absurd h1 (by decide)
 obtain ⟨k,rfl,hk⟩ : ∃ k : Nat,x = (k : Int) ∧ k ≤ 1:=by rcases hx with rfl | rfl; exact ⟨0,rfl,by omega⟩; exact ⟨1,rfl,by omega⟩
 rw [Int.toNat_natCast]
 have hsh:=frm_shift false V k 0 h0
 rw [Int.zero_add] at hsh
 have hlt : V * 2 ^ k < 2 ^ 122:=by
  have : 2 ^ k ≤ 2:=by rcases (show k = 0 ∨ k = 1 by omega) with rfl | rfl <;> decide
  have:=Nat.mul_le_mul_left V this
  omega
 have hge : 2 ^ 119 ≤ V * 2 ^ k:=Nat.le_trans h1 (Nat.le_mul_of_pos_right V (Nat.two_pow_pos k))
 obtain ⟨P,hP⟩ : ∃ P,V * 2 ^ k = P:=⟨_,rfl⟩
 rw [hP] at hlt hge hsh ⊢
 obtain ⟨r,e,l,v⟩:=cfm_lies 0 122 (by decide) (by decide) (by decide) (P : Int) (by rw [Int.natAbs_natCast]; exact hlt)
 have e2 : frm false P 0 = some r:=by
  rw [frm_cfm]
  exact e
 have hne : r.mag ≠ []:=fun h => by
  unfold vz at v
  rw [h] at v
  have : (P : Int) = 0:=by rw [← v]; cases r.neg <;> simp [sg,nv]
  omega
 have hl:=l.low hne
 have hng : r.neg = false:=by
  cases hg : r.neg
  ·rfl
  ·unfold vz at v
   rw [hg] at v
   simp only [sg,if_true] at v
   have : (0 : Int) ≤ (nv r.mag : Int) * 2 ^ (r.exp - 0).toNat:=Int.mul_nonneg (by omega) (Int.le_of_lt (Int.pow_pos (by decide)))
   omega
 have hv : nv r.mag * 2 ^ r.exp.toNat = P:=by
  unfold vz at v
  rw [hng,Int.sub_zero] at v
  simp only [sg] at v
  have : ((nv r.mag * 2 ^ r.exp.toNat : Nat) : Int) = (P : Int):=by push_cast; exact v
  omega
 have hn0:=nv_ne r l.ok hne
 have hb:=bl_mul (nv r.mag) r.exp.toNat hn0
 rw [hv] at hb
 have hb1 : 119 < bl P:=by
  obtain ⟨b1,b2,b3⟩:=bl_pos P (by omega)
  apply Decidable.byContradiction
  intro hc
  have : 2 ^ bl P ≤ 2 ^ 119:=Nat.pow_le_pow_right (by decide) (by omega)
  omega
 have hb2:=bl_le P 122 hlt
 exact ⟨r,by rw [← hsh]; exact e2,l.ok,hng,hne,hl,hv,by omega,by omega⟩
theorem rootquot_any (n : Int) (hn : n = 64 ∨ n = 32) (a b : Nm) (ha : vld a = true) (hb : vld b = true) (ham : a.mag ≠ []) (hbm : b.mag ≠ []) (han : a.neg = false) (hbn : b.neg = false) : ∃ r h l rs ex un m k F,frm false (dV 4 a b) (dex 4 a b % 2) = some r ∧ nv r.mag * 2 ^ r.exp.toNat = dV 4 a b * 2 ^ (dex 4 a b % 2).toNat ∧ 0 ≤ r.exp ∧ Rtl r h l rs ∧ ex = rlast r / 2 + dex 4 a b / 2 ∧ dex 4 a b / 2 + 4 ≤ ex ∧ ex ≤ dex 4 a b / 2 + 5 ∧ Ldz n h 56 ex un m k F ∧ ∀ (way : Int),(way = 0 ∨ way = 1 ∨ way = 2) → ∀ (a1 a2 : Option Addr) (c1 c2 : Nat) (w : World),Tab w → Sl w (.slice a1 a.mag.length c1) a.mag → Sl w (.slice a2 b.mag.length c2) b.mag → Calls Tryz.prog 254 #[.agg #[.bool a.neg,.slice a1 a.mag.length c1,.int .i64 a.exp],.agg #[.bool b.neg,.slice a2 b.mag.length c2,.int .i64 b.exp],.int .i64 n,.int .i64 way] w fun e w' => e = .returned (.tuple #[.int .i64 (pz n (kyz false (mgz way false (ifn n) F (decide (k % 2 = 1)) (decide (h / 2 ^ m % 2 = 1)) ((rs || drs 4 a b) || h % 2 ^ m != 0)))),.bool (odz way false (ifn n) F (decide (k % 2 = 1)) (decide (h / 2 ^ m % 2 = 1)) ((rs || drs 4 a b) || h % 2 ^ m != 0)),.int .i64 0]) ∧ Kept w w':=by
 obtain ⟨hlen1,hDg1⟩:=vld_dg a.neg a.mag a.exp ha
 obtain ⟨hlen2,hDg2⟩:=vld_dg b.neg b.mag b.exp hb
 have KR : ∀ (way : Int),(way = 0 ∨ way = 1 ∨ way = 2) → ∀ (a1 a2 : Option Addr) (c1 c2 : Nat) (w : World),Sl w (.slice a1 a.mag.length c1) a.mag → Sl w (.slice a2 b.mag.length c2) b.mag → Hid (Calls Tryz.prog 231 #[.int .i64 n,.int .i64 way,.slice (some ⟨w.heap.size + 2,0,none⟩) 2 2] (((w.alloc (.cells #[.bool a.neg,.slice a1 a.mag.length c1,.int .i64 a.exp] 78)).alloc (.cells #[.bool b.neg,.slice a2 b.mag.length c2,.int .i64 b.exp] 78)).alloc (.cells (pairC a.neg (.slice a1 a.mag.length c1) a.exp b.neg (.slice a2 b.mag.length c2) b.exp) 78)) fun e w' => e = .returned (.tuple #[.agg #[.int .i64 n,.int .i64 (kprec n),.int .i64 (kleast n),.int .i64 (kinf n),.func (.func (wfv way)) #[] #[]],.int .i64 0]) ∧ Kept (((w.alloc (.cells #[.bool a.neg,.slice a1 a.mag.length c1,.int .i64 a.exp] 78)).alloc (.cells #[.bool b.neg,.slice a2 b.mag.length c2,.int .i64 b.exp] 78)).alloc (.cells (pairC a.neg (.slice a1 a.mag.length c1) a.exp b.neg (.slice a2 b.mag.length c2) b.exp) 78)) w'):=fun way hw a1 a2 c1 c2 w h1 h2 => by
  refine roundingOf_ok n way hn hw _ _ (fun u k => ?_)
  have hK : Kept w (((w.alloc (.cells #[.bool a.neg,.slice a1 a.mag.length c1,.int .i64 a.exp] 78)).alloc (.cells #[.bool b.neg,.slice a2 b.mag.length c2,.int .i64 b.exp] 78)).alloc (.cells (pairC a.neg (.slice a1 a.mag.length c1) a.exp b.neg (.slice a2 b.mag.length c2) b.exp) 78)):=(((Kept.refl w).alloc _ _).alloc _ _).alloc _ _
  have hb' : w.heap.size + 2 < (((w.alloc (.cells #[.bool a.neg,.slice a1 a.mag.length c1,.int .i64 a.exp] 78)).alloc (.cells #[.bool b.neg,.slice a2 b.mag.length c2,.int .i64 b.exp] 78)).alloc (.cells (pairC a.neg (.slice a1 a.mag.length c1) a.exp b.neg (.slice a2 b.mag.length c2) b.exp) 78)).heap.size:=by simp
  have:=allValid_2 u (w.heap.size + 2) 2 a.neg b.neg a1 a2 a.mag.length c1 b.mag.length c2 a.exp b.exp true true (Nat.lt_of_lt_of_le hb' k.below.size) ((k.below.cell (p:=⟨w.heap.size + 2,0,none⟩) hb').trans (by simp [go_sem])) ((k.below.cell (p:=⟨w.heap.size + 2,1,none⟩) hb').trans (by simp [go_sem])) ((k.below.cell (p:=⟨w.heap.size + 2,2,none⟩) hb').trans (by simp [go_sem])) ((k.below.cell (p:=⟨w.heap.size + 2,3,none⟩) hb').trans (by simp [go_sem])) ((k.below.cell (p:=⟨w.heap.size + 2,4,none⟩) hb').trans (by simp [go_sem])) ((k.below.cell (p:=⟨w.heap.size + 2,5,none⟩) hb').trans (by simp [go_sem])) (fun v kv => ?_) (fun v kv => ?_)
  ·exact this
  ·have:=xvalid_any a hDg1.rg (by omega) (.agg #[.bool a.neg,.slice a1 a.mag.length c1,.int .i64 a.exp]) v ⟨_,rfl,((h1.kept hK).kept k).kept kv⟩
   rw [ha] at this
   exact this
  ·have:=xvalid_any b hDg2.rg (by omega) (.agg #[.bool b.neg,.slice a2 b.mag.length c2,.int .i64 b.exp]) v ⟨_,rfl,((h2.kept hK).kept k).kept kv⟩
   rw [hb] at this
   exact this
 have hl1:=List.length_pos_iff.2 ham
 have hl2:=List.length_pos_iff.2 hbm
 have KG : ∀ (x : Nm),x.neg = false → 0 < x.mag.length → ∀ (a2 : Option Addr) (c2 : Nat) (w : World),Calls Tryz.prog 301 #[.agg #[.bool x.neg,.slice a2 x.mag.length c2,.int .i64 x.exp]] w fun e w' => e = .returned (.int .i64 1) ∧ Kept w w':=fun x hx hl a2 c2 w => by
  have:=signOf_any x.neg a2 x.mag.length c2 x.exp w
  rw [if_neg (by omega),hx,if_neg (by decide)] at this
  rw [hx]
  exact this
 obtain ⟨p1,p2,p3,p4,p5,p6⟩:=vld_some a.neg a.mag a.exp ham ha
 obtain ⟨q1,q2,q3,q4,q5,q6⟩:=vld_some b.neg b.mag b.exp hbm hb
 have hba:=bl_le _ _ (nv_lt a.mag p2)
 have hbb:=bl_le _ _ (nv_lt b.mag q2)
 obtain ⟨g1,g2⟩:=dV_bounds 4 (by decide) a b ha hb ham hbm
 have hexr : -2900000 ≤ dex 4 a b ∧ dex 4 a b ≤ 2900000:=by unfold dex; omega
 obtain ⟨dx,hdx⟩ : ∃ dx,dex 4 a b = dx:=⟨_,rfl⟩
 have hm2 : dx % 2 = 0 ∨ dx % 2 = 1:=by omega
 obtain ⟨V,hV⟩ : ∃ V,dV 4 a b = V:=⟨_,rfl⟩
 rw [hV] at g1 g2
 rw [hdx] at hexr
 obtain ⟨r,hr,rv,rn,rne,re,rval,rb1,rb2⟩:=rq_under V (dx % 2) hm2 g1 g2
 obtain ⟨h,l,H⟩:=rtl_of r rv rne
 have hrl : 4 ≤ rlast r / 2 ∧ rlast r / 2 ≤ 5:=by unfold rlast rfst; omega
 obtain ⟨ex,hex⟩ : ∃ ex,ex = rlast r / 2 + dx / 2:=⟨_,rfl⟩
 obtain ⟨un,hun⟩ : ∃ un,max (ex + ((56 : Nat) : Int) - kprec n) (kleast n) = un:=⟨_,rfl⟩
 obtain ⟨k1,k2,k3⟩:=kp_toNat n hn
 obtain ⟨m,hm⟩ : ∃ m : Nat,un - ex = (m : Int) + 1:=⟨(un - ex - 1).toNat,by omega⟩
 have L : Ldz n h 56 ex un m (h / 2 ^ (m + 1)) ((un - kleast n).toNat * cbn n + h / 2 ^ (m + 1)):=⟨hun.symm,hm,rfl,rfl⟩
 rw [hdx,hV]
 refine ⟨r,h,l,_,ex,un,m,_,_,hr,rval,re,H,hex,by omega,by omega,L,fun way hw a1 a2 c1 c2 w hT h1 h2 => ?_⟩
 have hroot:=root_any r rv rne h l _ H
 have hLL : (dvl V 4 5).length = 5:=dvl_len _ _ _
 have hnv : nv (dvl V 4 5) = V:=by
  rw [dvl_full]
  exact nv_dgs V 5 (Nat.lt_trans g2 (by decide))
 have KQ : ∀ u,Kept w u → Calls Tryz.prog 302 #[.agg #[.bool a.neg,.slice a1 a.mag.length c1,.int .i64 a.exp],.agg #[.bool b.neg,.slice a2 b.mag.length c2,.int .i64 b.exp]] u fun e w' => e = .returned (.agg #[.bool false,.int .i64 (h : Int),.int .i64 ex,.bool ((decide (l ≠ 0) || decide (r.exp < rlast r)) || drs 4 a b)]) ∧ Kept u w':=fun u ku => by
  rw [hex]
  refine rootq_walk a.neg b.neg a1 a2 a.mag.length c1 b.mag.length c2 hl1 a.exp b.exp dx (dx % 2) (dx / 2) (by omega) rfl rfl (drs 4 a b) (decide (l ≠ 0) || decide (r.exp < rlast r)) (dvl V 4 5) hLL (dvl_dg _ _ _) r (by rw [hnv]; exact hr) h (rlast r / 2) (by omega) u (hT.kept ku) (fun u2 k2 => ?_) (fun ao c u2 hs => hroot ao c u2 hs)
  have:=divided_any 4 (by decide) (by decide) a b ha hb ham hbm a1 a2 c1 c2 u2 ((h1.kept ku).kept k2) ((h2.kept ku).kept k2)
  rw [hdx,hV] at this
  exact this
 exact xrootq way _ n _ _ _ a.neg b.neg a1 a2 a.mag.length c1 b.mag.length c2 a.exp b.exp _ 1 1 1 _ (by decide) (by decide) (by decide) _ _ _ _ w (KR way hw a1 a2 c1 c2 w h1 h2) (fun u _ => KG a han hl1 a1 c1 u) (fun u _ => KG b hbn hl2 a2 c2 u) KQ (fun u ku => ldround way hw n hn false h 56 ex _ un m _ _ L H.low H.high (by decide) (by decide) (by omega) (by omega) _ _ _ rfl rfl rfl u (hT.kept ku))
end Go.Proofs.YtelbefihigkhjaaGreatDoor

namespace Go.Proofs.YtelbefihigkhjaaGreatDoor
open Go.ChangeShapes Go.WideShapes Go.ChangeAt Go.RowKit
set_option maxHeartbeats 16000000
set_option maxRecDepth 100000
set_option linter.unusedVariables false
set_option linter.unusedSimpArgs false
theorem srootq_walk (n1 : Bool) (a1 : Option Addr) (l1 c1 : Nat) (x1 : Int) (n2 : Bool) (a2 : Option Addr) (l2 c2 : Nat) (x2 : Int) (n s q : Int) (o : Bool) (w : World)
  (KE : Hid (∀ u,Kept w u → Calls Tryz.prog 254 #[.agg #[.bool n1,.slice a1 l1 c1,.int .i64 x1],.agg #[.bool n2,.slice a2 l2 c2,.int .i64 x2],.int .i64 n,.int .i64 0] u fun e w' => e = .returned (.tuple #[.int .i64 s,.bool o,.int .i64 q]) ∧ Kept u w')) :
  Calls Tryz.prog 189 #[.agg #[.bool n1,.slice a1 l1 c1,.int .i64 x1],.agg #[.bool n2,.slice a2 l2 c2,.int .i64 x2],.int .i64 n] w fun e w' => e = .returned (.int .i64 s) ∧ Kept w w':=by
 obtain ⟨X,hX⟩ : ∃ X,X = (w.alloc (.cells #[.bool n1,.slice a1 l1 c1,.int .i64 x1] 78)).alloc (.cells #[.bool n2,.slice a2 l2 c2,.int .i64 x2] 78):=⟨_,rfl⟩
 have hK : Kept w X:=by rw [hX]; exact ((Kept.refl w).alloc _ _).alloc _ _
 have p00 : X.cell? ⟨w.heap.size,0,none⟩ = some (.bool n1):=by rw [hX]; simp [go_sem]
 have p01 : X.cell? ⟨w.heap.size,1,none⟩ = some (.slice a1 l1 c1):=by rw [hX]; simp [go_sem]
 have p02 : X.cell? ⟨w.heap.size,2,none⟩ = some (.int .i64 x1):=by rw [hX]; simp [go_sem]
 have p10 : X.cell? ⟨w.heap.size + 1,0,none⟩ = some (.bool n2):=by rw [hX]; simp [go_sem]
 have p11 : X.cell? ⟨w.heap.size + 1,1,none⟩ = some (.slice a2 l2 c2):=by rw [hX]; simp [go_sem]
 have p12 : X.cell? ⟨w.heap.size + 1,2,none⟩ = some (.int .i64 x2):=by rw [hX]; simp [go_sem]
 have HP:=(show Hid (X.cell? ⟨w.heap.size,0,none⟩ = some (.bool n1) ∧ X.cell? ⟨w.heap.size,1,none⟩ = some (.slice a1 l1 c1) ∧ X.cell? ⟨w.heap.size,2,none⟩ = some (.int .i64 x1) ∧ X.cell? ⟨w.heap.size + 1,0,none⟩ = some (.bool n2) ∧ X.cell? ⟨w.heap.size + 1,1,none⟩ = some (.slice a2 l2 c2) ∧ X.cell? ⟨w.heap.size + 1,2,none⟩ = some (.int .i64 x2)) from ⟨p00,p01,p02,p10,p11,p12⟩)
 clear p00 p01 p02 p10 p11 p12
 go_enter Tryz.func189,Tryz.ntmps189
 go_upto_region 1 with fail
 rw [← hX]
 clear hX
 obtain ⟨p00,p01,p02,p10,p11,p12⟩:=HP.out
 go_wp2_with (first | (go_at_call 254; refine (KE.out _ hK).mono ?_; rintro e w2 ⟨rfl,k2⟩))
 go_ret
 exact ⟨rfl,hK.trans k2⟩
theorem root6_walk (n m s : Int) (y z : Nm) (w : World)
  (KI6 : Hid (∀ u,Kept w u → Calls Tryz.prog 188 #[.int .i64 6] u fun e w' => ∃ v,e = .returned v ∧ New u w' v y ∧ Kept u w'))
  (KIn : Hid (∀ u,Kept w u → Calls Tryz.prog 188 #[.int .i64 n] u fun e w' => ∃ v,e = .returned v ∧ New u w' v z ∧ Kept u w'))
  (KR : Hid (∀ u v1 v2,Kept w u → NumAt u v1 y → NumAt u v2 z → Calls Tryz.prog 189 #[v1,v2,.int .i64 m] u fun e w' => e = .returned (.int .i64 s) ∧ Kept u w')) :
  Calls Tryz.prog 107 #[.int .i64 n,.int .i64 m] w fun e w' => e = .returned (.int .i64 s) ∧ Kept w w':=by
 go_enter Tryz.func107,Tryz.ntmps107
 go_wp2_with fail
 refine (KI6.out _ (Kept.refl w)).mono ?_
 rintro e w1 ⟨v1,rfl,N1,k1⟩
 go_wp2_with fail
 refine (KIn.out _ k1).mono ?_
 rintro e w2 ⟨v2,rfl,N2,k2⟩
 have A1:=(N1.kept k2).numAt
 have A2:=N2.numAt
 go_wp2_with fail
 refine (KR.out _ _ _ (k1.trans k2) A1 A2).mono ?_
 rintro e w3 ⟨rfl,k3⟩
 go_wp2_with fail
 go_ret
 exact ⟨rfl,k1.trans (k2.trans k3)⟩
/- a whole number: how many bits -/
theorem int_bits (p : Nat) (h0 : p ≠ 0) (h : p < 2 ^ 60) : ∃ y,cfm (p : Int) 0 = some y ∧ vld y = true ∧ y.neg = false ∧ y.mag ≠ [] ∧ 0 ≤ y.exp ∧ nv y.mag * 2 ^ y.exp.toNat = p ∧ y.exp + (bl (nv y.mag) : Int) = (bl p : Int):=by
 obtain ⟨r,e,l,v⟩:=cfm_lies 0 60 (by decide) (by decide) (by decide) (p : Int) (by rw [Int.natAbs_natCast]; exact h)
 have hne : r.mag ≠ []:=fun h => by
  unfold vz at v
  rw [h] at v
  have : (p : Int) = 0:=by rw [← v]; cases r.neg <;> simp [sg,nv]
  omega
 have hl:=l.low hne
 have hng : r.neg = false:=by
  cases hg : r.neg
  ·rfl
  ·unfold vz at v
   rw [hg] at v
   simp only [sg,if_true] at v
   have : (0 : Int) ≤ (nv r.mag : Int) * 2 ^ (r.exp - 0).toNat:=Int.mul_nonneg (by omega) (Int.le_of_lt (Int.pow_pos (by decide)))
   omega
 have hv : nv r.mag * 2 ^ r.exp.toNat = p:=by
  unfold vz at v
  rw [hng,Int.sub_zero] at v
  simp only [sg] at v
  have : ((nv r.mag * 2 ^ r.exp.toNat : Nat) : Int) = (p : Int):=by push_cast; exact v
  omega
 have hb:=bl_mul (nv r.mag) r.exp.toNat (nv_ne r l.ok hne)
 rw [hv] at hb
 exact ⟨r,e,l.ok,hng,hne,hl,hv,by omega⟩
theorem root6_any (wd : Int) (hwd : wd = 64 ∨ wd = 32) (n : Nat) (h1 : 1 ≤ n) (h2 : n ≤ 4097) : ∃ L : Int,(-9223372036854775808 ≤ L ∧ L ≤ 9223372036854775807) ∧ cls L wd < 3 ∧ ∀ w,Tab w → Calls Tryz.prog 107 #[.int .i64 (n : Int),.int .i64 wd] w fun e w' => e = .returned (.int .i64 L) ∧ Kept w w':=by
 obtain ⟨y,y1,y2,y3,y4,y5,y6,y7⟩:=int_bits 6 (by decide) (by decide)
 obtain ⟨z,z1,z2,z3,z4,z5,z6,z7⟩:=int_bits n (by omega) (Nat.lt_of_le_of_lt h2 (by decide))
 have b6 : bl 6 = 3:=by decide
 obtain ⟨b1,b2,b3⟩:=bl_pos n (by omega)
 have b4:=bl_le n 13 (Nat.lt_of_le_of_lt h2 (by decide))
 obtain ⟨r,h,l,rs,ex,un,m,k,F,-,-,-,H,-,e1,e2,L,K⟩:=rootquot_any wd hwd y z y2 z2 y4 z4 y3 z3
 have hdx : -140 ≤ dex 4 y z ∧ dex 4 y z ≤ -110:=by unfold dex; omega
 obtain ⟨u1,u2,u3⟩:=ld_bounds hwd L H.low H.high (by decide)
 obtain ⟨R,hR⟩ : ∃ R,mgz 0 false (ifn wd) F (decide (k % 2 = 1)) (decide (h / 2 ^ m % 2 = 1)) ((rs || drs 4 y z) || h % 2 ^ m != 0) = R:=⟨_,rfl⟩
 have K0:=K 0 (.inl rfl)
 rw [hR] at K0
 have hF : F + 1 < ifn wd:=by
  rw [L.hF]
  have hun : un ≤ -15:=by
   rw [L.hun]
   rcases hwd with rfl | rfl
   ·have : kprec 64 = 53:=rfl
    have : kleast 64 = -1074:=rfl
    omega
   ·have : kprec 32 = 24:=rfl
    have : kleast 32 = -149:=rfl
    omega
  rcases hwd with rfl | rfl
  ·have a1 : cbn 64 = 4503599627370496:=rfl
   have a2 : ifn 64 = 9218868437227405312:=rfl
   have a3 : kleast 64 = -1074:=rfl
   rw [a1] at u2
   rw [a1,a2,a3]
   have : (un - -1074).toNat ≤ 1059:=by omega
   have:=Nat.mul_le_mul_right 4503599627370496 this
   omega
  ·have a1 : cbn 32 = 8388608:=rfl
   have a2 : ifn 32 = 2139095040:=rfl
   have a3 : kleast 32 = -149:=rfl
   rw [a1] at u2
   rw [a1,a2,a3]
   have : (un - -149).toNat ≤ 134:=by omega
   have:=Nat.mul_le_mul_right 8388608 this
   omega
 have hRb : R < ifn wd:=by
  rw [← hR]
  unfold mgz
  have : ∀ b : Bool,b.toNat ≤ 1:=fun b => by cases b <;> decide
  have:=this (awz 0 false (decide (k % 2 = 1)) (decide (h / 2 ^ m % 2 = 1)) ((rs || drs 4 y z) || h % 2 ^ m != 0))
  rw [if_pos (by omega)]
  omega
 have hky : kyz false R = (R : Int):=rfl
 rw [hky] at K0
 refine ⟨pz wd (R : Int),pz_range wd _ hwd (by omega) (by omega),(pz_cls wd _ hwd (by omega) (by omega)).2 ⟨by omega,by omega⟩,fun w hT => ?_⟩
 refine root6_walk (n : Int) wd _ y z w (fun u k => sint_any 6 (by decide) (by decide) y y1 u (hT.kept k)) (fun u k => sint_any (n : Int) (by omega) (by omega) z z1 u (hT.kept k)) (fun u v1 v2 k n1 n2 => ?_)
 obtain ⟨a1,c1,rfl,s1⟩:=n1.form
 obtain ⟨a2,c2,rfl,s2⟩:=n2.form
 exact srootq_walk _ _ _ _ _ _ _ _ _ _ wd _ 0 _ u (fun u2 k2 => K0 a1 a2 c1 c2 u2 ((hT.kept k).kept k2) (s1.kept k2) (s2.kept k2))
end Go.Proofs.YtelbefihigkhjaaGreatDoor
