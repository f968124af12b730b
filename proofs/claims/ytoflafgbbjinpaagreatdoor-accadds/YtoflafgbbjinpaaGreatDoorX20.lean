/- The walk of exact's leading; the leading bits of a number. The walk of exact's round where the number is a float's value. The walks of exact's Add of two numbers that are not 0,and Int. -/
import Derived.Test.YtoflafgbbjinpaaGreatDoorX19
import Derived.Test.YtoflafgbbjinpaaGreatDoorX06
import Derived.Test.YtoflafgbbjinpaaGreatDoorX09
namespace Go.Proofs.YtoflafgbbjinpaaGreatDoor
open Go.ChangeShapes Go.WideShapes Go.ChangeAt Go.RowKit
set_option linter.unusedVariables false
set_option linter.unusedSimpArgs false
set_option maxHeartbeats 16000000
set_option maxRecDepth 100000
def hd (v : Nat) : Nat:=v * 2 ^ 60 / 2 ^ bl v
theorem hd_bounds (v : Nat) (hv : v ≠ 0) : 2 ^ 59 ≤ hd v ∧ hd v < 2 ^ 60:=by
 obtain ⟨h1,h2,h3⟩:=bl_pos v hv
 unfold hd
 obtain ⟨k,hk⟩ : ∃ k,bl v = k + 1:=⟨bl v - 1,by omega⟩
 rw [hk,Nat.add_sub_cancel] at h1
 rw [hk] at h2 ⊢
 have hp:=Nat.two_pow_pos k
 constructor
 ·rw [Nat.le_div_iff_mul_le (Nat.two_pow_pos _)]
  have : 2 ^ 59 * 2 ^ (k + 1) = 2 ^ k * 2 ^ 60:=by rw [← Nat.pow_add,← Nat.pow_add]; congr 1; omega
  rw [this]
  exact Nat.mul_le_mul_right _ h1
 ·rw [Nat.div_lt_iff_lt_mul (Nat.two_pow_pos _),Nat.mul_comm (2 ^ 60)]
  exact Nat.mul_lt_mul_of_pos_right h2 (Nat.two_pow_pos _)
theorem pcz_shift (v : Nat) (p : Int) (hp : -60 ≤ p) : pcz v p = ((v * 2 ^ 60 / 2 ^ (60 + p).toNat % 1073741824 : Nat) : Int):=by
 unfold pcz
 split
 ·obtain ⟨q,rfl⟩ : ∃ q : Nat,p = q:=⟨p.toNat,by omega⟩
  rw [Int.toNat_natCast,show (60 + (q : Int)).toNat = q + 60 by omega,Nat.pow_add,Nat.mul_div_mul_right _ _ (Nat.two_pow_pos _)]
 ·obtain ⟨q,hq⟩ : ∃ q : Nat,(60 + p).toNat = q:=⟨_,rfl⟩
  obtain ⟨j,hj⟩ : ∃ j : Nat,(-p).toNat = j:=⟨_,rfl⟩
  rw [hq,hj]
  have : (2 : Nat) ^ 60 = 2 ^ j * 2 ^ q:=by rw [← Nat.pow_add]; congr 1; omega
  rw [this,← Nat.mul_assoc,Nat.mul_div_cancel _ (Nat.two_pow_pos _)]
theorem pcz_low (v : Nat) (hv : v ≠ 0) : pcz v ((bl v : Int) - 60) = ((hd v % 1073741824 : Nat) : Int):=by
 have:=(bl_pos v hv).2.2
 rw [pcz_shift v _ (by omega),show (60 + ((bl v : Int) - 60)).toNat = bl v by omega]
 rfl
theorem pcz_high (v : Nat) (hv : v ≠ 0) : pcz v ((bl v : Int) - 60 + 30) = ((hd v / 1073741824 : Nat) : Int):=by
 have:=(bl_pos v hv).2.2
 rw [pcz_shift v _ (by omega),show (60 + ((bl v : Int) - 60 + 30)).toNat = bl v + 30 by omega,Nat.pow_add,← Nat.div_div_eq_div_mul]
 have hb:=(hd_bounds v hv).2
 unfold hd at hb ⊢
 rw [Nat.mod_eq_of_lt]
 rw [Nat.div_lt_iff_lt_mul (by decide)]
 exact hb
theorem or_swap (a b : Int) : bits .or .i64 a b = bits .or .i64 b a:=by
 unfold bits
 simp [BitVec.or_comm]
theorem head_or (v : Nat) (hv : v ≠ 0) : bits .or .i64 (((hd v / 1073741824 : Nat) : Int) * 1073741824) ((hd v % 1073741824 : Nat) : Int) = ((hd v : Nat) : Int):=by
 have hb:=(hd_bounds v hv).2
 rw [or_swap,show (((hd v / 1073741824 : Nat) : Int) * 1073741824) = ((hd v / 1073741824 * 2 ^ 30 : Nat) : Int) by rw [show (2 : Nat) ^ 30 = 1073741824 by rfl]; omega,or_sum (hd v % 1073741824) (hd v / 1073741824) 30 (Nat.mod_lt _ (by decide)) (by rw [show (2 : Nat) ^ 30 = 1073741824 by rfl]; omega)]
 congr 1
 rw [show (2 : Nat) ^ 30 = 1073741824 by rfl]
 omega
theorem leading_gen (ng : Bool) (ao : Option Addr) (n c : Nat) (hn : 0 < n) (x : Int) (hx1 : -1048576 ≤ x) (hx2 : x ≤ 1048576) (B : Nat) (hB : B ≤ 60000) (p1 p0 q1 h : Int) (rs : Bool) (hq : IntKind.i64.wrap (p1 * 1073741824) = q1) (hor : bits .or .i64 q1 p0 = h) (hrs : decide (60 < (B : Int)) = rs) (w : World)
  (KL : Hid (∀ u,Kept w u → Calls Tryz.prog 106 #[.slice ao n c] u fun e w' => e = .returned (.int .i64 (B : Int)) ∧ u = w'))
  (K1 : Hid (∀ u,Kept w u → Calls Tryz.prog 108 #[.slice ao n c,.int .i64 ((B : Int) - 60 + 30)] u fun e w' => e = .returned (.int .i64 p1) ∧ Kept u w'))
  (K0 : Hid (∀ u,Kept w u → Calls Tryz.prog 108 #[.slice ao n c,.int .i64 ((B : Int) - 60)] u fun e w' => e = .returned (.int .i64 p0) ∧ Kept u w')) :
  Calls Tryz.prog 74 #[.agg #[.bool ng,.slice ao n c,.int .i64 x]] w fun e w' => e = .returned (.agg #[.bool ng,.int .i64 h,.int .i64 (x + ((B : Int) - 60)),.bool rs]) ∧ Kept w w':=by
 have hK : Kept w ((w.alloc (.cells #[.bool ng,.slice ao n c,.int .i64 x] 24)).alloc (.cells #[.bool false,.int .i64 0,.int .i64 0,.bool false] 114)):=((Kept.refl w).alloc _ _).alloc _ _
 have HS : Hid (∀ u,Kept ((w.alloc (.cells #[.bool ng,.slice ao n c,.int .i64 x] 24)).alloc (.cells #[.bool false,.int .i64 0,.int .i64 0,.bool false] 114)) u → (u.cell? ⟨w.heap.size,0,none⟩ = some (.bool ng) ∧ u.cell? ⟨w.heap.size,1,none⟩ = some (.slice ao n c) ∧ u.cell? ⟨w.heap.size,2,none⟩ = some (.int .i64 x)) ∧ u.cell? ⟨w.heap.size + 1,0,none⟩ = some (.bool false) ∧ u.cell? ⟨w.heap.size + 1,1,none⟩ = some (.int .i64 0) ∧ u.cell? ⟨w.heap.size + 1,2,none⟩ = some (.int .i64 0) ∧ u.cell? ⟨w.heap.size + 1,3,none⟩ = some (.bool false) ∧ ∀ o,u.frozen? ⟨w.heap.size + 1,o,none⟩ = false):=fun u k => ⟨⟨(k.below.cell (p:=⟨w.heap.size,0,none⟩) (by simp; omega)).trans (by simp [go_sem]),(k.below.cell (p:=⟨w.heap.size,1,none⟩) (by simp; omega)).trans (by simp [go_sem]),(k.below.cell (p:=⟨w.heap.size,2,none⟩) (by simp; omega)).trans (by simp [go_sem])⟩,(k.below.cell (p:=⟨w.heap.size + 1,0,none⟩) (by simp)).trans (by simp [go_sem]),(k.below.cell (p:=⟨w.heap.size + 1,1,none⟩) (by simp)).trans (by simp [go_sem]),(k.below.cell (p:=⟨w.heap.size + 1,2,none⟩) (by simp)).trans (by simp [go_sem]),(k.below.cell (p:=⟨w.heap.size + 1,3,none⟩) (by simp)).trans (by simp [go_sem]),fun o => (k.frozen _).trans (by simp [go_sem])⟩
 have kD : Kept ((w.alloc (.cells #[.bool ng,.slice ao n c,.int .i64 x] 24)).alloc (.cells #[.bool false,.int .i64 0,.int .i64 0,.bool false] 114)) (((w.alloc (.cells #[.bool ng,.slice ao n c,.int .i64 x] 24)).alloc (.cells #[.bool false,.int .i64 0,.int .i64 0,.bool false] 114))).drew:=(Kept.refl _).drew
 have z1 : IntKind.i64.wrap ((B : Int) - 60) = (B : Int) - 60:=by rw [wrap_i64]; omega
 have z2 : IntKind.i64.wrap ((B : Int) - 60 + 30) = (B : Int) - 60 + 30:=by rw [wrap_i64]; omega
 have z3 : IntKind.i64.wrap (x + ((B : Int) - 60)) = x + ((B : Int) - 60):=by rw [wrap_i64]; omega
 have hn0 : ((n : Int) == 0) = false:=by simp; omega
 go_enter Tryz.func74,Tryz.ntmps74
 go_wp2_with (first | (go_at_call 106; refine (KL.out _ hK).mono ?_; rintro e w1 ⟨rfl,rfl⟩))
 have e00:=(HS.out _ kD).1
 refine wp_region_held_drew (S:=fun u => u.cell? ⟨w.heap.size,0,none⟩ = some (.bool ng) ∧ u.cell? ⟨w.heap.size,1,none⟩ = some (.slice ao n c) ∧ u.cell? ⟨w.heap.size,2,none⟩ = some (.int .i64 x)) (by kernel_rfl) e00 (fun hHeld => ?_)
 refine tk (i:=0) (v:=?_) rfl ?_
 try simp only [Act.put,zA,zB,zC,zD,zE,zF]
 refine tk (i:=1) (v:=?_) rfl ?_
 try simp only [Act.put,zA,zB,zC,zD,zE,zF]
 refine tk (i:=2) (v:=?_) rfl ?_
 try simp only [Act.put,zA,zB,zC,zD,zE,zF]
 refine tk (i:=3) (v:=?_) rfl ?_
 try simp only [Act.put,zA,zB,zC,zD,zE,zF]
 refine tk (i:=4) (v:=?_) rfl ?_
 try simp only [Act.put,zA,zB,zC,zD,zE,zF]
 refine tk (i:=5) (v:=?_) rfl ?_
 try simp only [Act.put,zA,zB,zC,zD,zE,zF]
 refine tk (i:=8) (v:=?_) rfl ?_
 try simp only [Act.put,zA,zB,zC,zD,zE,zF]
 refine tk (i:=9) (v:=?_) rfl ?_
 try simp only [Act.put,zA,zB,zC,zD,zE,zF]
 refine tk (i:=10) (v:=?_) rfl ?_
 try simp only [Act.put,zA,zB,zC,zD,zE,zF]
 refine tk (i:=13) (v:=?_) rfl ?_
 try simp only [Act.put,zA,zB,zC,zD,zE,zF]
 refine tk (i:=14) (v:=?_) rfl ?_
 try simp only [Act.put,zA,zB,zC,zD,zE,zF]
 refine tk (i:=15) (v:=?_) rfl ?_
 try simp only [Act.put,zA,zB,zC,zD,zE,zF]
 refine tk (i:=16) (v:=?_) rfl ?_
 try simp only [Act.put,zA,zB,zC,zD,zE,zF]
 refine tk (i:=17) (v:=?_) rfl ?_
 try simp only [Act.put,zA,zB,zC,zD,zE,zF]
 refine tk (i:=18) (v:=?_) rfl ?_
 try simp only [Act.put,zA,zB,zC,zD,zE,zF]
 refine wpAnyH_ready (rs:=[6]) (by kernel_rfl) (by simp) ?_
 refine AllReadyH.cons rfl (fun K hK9 => ?_) AllReadyH.nil
 go_simp
 go_wp2_with fail
 refine (K1.out _ (hK.trans (kD))).mono ?_
 rintro e u1 ⟨rfl,k1⟩
 have eu1:=(HS.out _ ((kD).trans k1)).1
 refine hK9.out _ _ eu1 (fun hHeldu1 => ?_)
 clear hK9 K
 refine tk (i:=7) (v:=?_) rfl ?_
 try simp only [Act.put,zA,zB,zC,zD,zE,zF]
 refine wpAnyH_ready (rs:=[11]) (by kernel_rfl) (by simp) ?_
 refine AllReadyH.cons rfl (fun K hK9 => ?_) AllReadyH.nil
 go_simp
 go_wp2_with fail
 refine (K0.out _ (hK.trans (kD.trans k1))).mono ?_
 rintro e u2 ⟨rfl,k2⟩
 have eu2:=(HS.out _ ((kD.trans k1).trans k2)).1
 refine hK9.out _ _ eu2 (fun hHeldu2 => ?_)
 clear hK9 K
 refine tk (i:=12) (v:=?_) rfl ?_
 try simp only [Act.put,zA,zB,zC,zD,zE,zF]
 refine tk (i:=19) (v:=?_) rfl ?_
 try simp only [Act.put,zA,zB,zC,zD,zE,zF]
 refine wpAnyH_ready (rs:=[20]) (by kernel_rfl) (by simp) ?_
 refine AllReadyH.cons rfl (fun K hK9 => ?_) AllReadyH.nil
 obtain ⟨e1,s0,s1,s2,s3,sf⟩:=HS.out _ ((kD.trans k1).trans k2)
 go_simp
 refine hK9.out _ _ ⟨(set4 _ _ _ _ (by omega) _ _ _ _).trans e1.1,(set4 _ _ _ _ (by omega) _ _ _ _).trans e1.2.1,(set4 _ _ _ _ (by omega) _ _ _ _).trans e1.2.2⟩ (fun hHeld9 => ?_)
 clear hK9 K
 refine wpAnyH_done (by kernel_rfl) ?_ _
 clear hHeld9
 go_wp2
 refine bodyPost_ret (v:=.agg #[.bool ng,.int .i64 h,.int .i64 (x + ((B : Int) - 60)),.bool rs]) (by simp [results,Tryz.results74,go_sem,s0,s1,s2,s3]) rfl ⟨rfl,?_⟩
 exact (hK.trans ((kD.trans k1).trans k2)).setCell (by simp) _ |>.setCell (by simp) _ |>.setCell (by simp) _ |>.setCell (by simp) _
theorem leading_any (ng : Bool) (L : List Int) (x : Int) (hne : L ≠ []) (hv : vld ⟨ng,L,x⟩ = true) (ao : Option Addr) (c : Nat) (w : World) (h : Sl w (.slice ao L.length c) L) :
  Calls Tryz.prog 74 #[.agg #[.bool ng,.slice ao L.length c,.int .i64 x]] w fun e w' => e = .returned (.agg #[.bool ng,.int .i64 ((hd (nv L) : Nat) : Int),.int .i64 (x + ((bl (nv L) : Int) - 60)),.bool (decide (60 < (bl (nv L) : Int)))]) ∧ Kept w w':=by
 obtain ⟨p1,p2,p3,p4,p5,p6⟩:=vld_some ng L x hne hv
 have hpos:=List.length_pos_iff.2 hne
 have hv0 : nv L ≠ 0:=fun h0 => by have:=nv_odd L p2 p4; omega
 have hbl:=bl_le _ _ (nv_lt L p2)
 have hb:=hd_bounds _ hv0
 refine leading_gen ng ao L.length c hpos x p5 p6 (bl (nv L)) (by omega) ((hd (nv L) / 1073741824 : Nat) : Int) ((hd (nv L) % 1073741824 : Nat) : Int) (((hd (nv L) / 1073741824 : Nat) : Int) * 1073741824) _ _ ?_ (head_or (nv L) hv0) rfl w (fun u k => length_any L ⟨p2,fun _ => p3⟩ (by omega) _ u (h.kept k)) (fun u k => ?_) (fun u k => ?_)
 ·rw [wrap_i64]
  omega
 ·have:=piece_any L p2 (.slice ao L.length c) ((bl (nv L) : Int) - 60 + 30) (by omega) (by omega) u (h.kept k)
  rw [pcz_high _ hv0] at this
  exact this
 ·have:=piece_any L p2 (.slice ao L.length c) ((bl (nv L) : Int) - 60) (by omega) (by omega) u (h.kept k)
  rw [pcz_low _ hv0] at this
  exact this
theorem round_zero (n pr le fi : Int) (f : Value) (ex : Int) (ng rs : Bool) (w : World) : Calls Tryz.prog 73 #[.agg #[.int .i64 n,.int .i64 pr,.int .i64 le,.int .i64 fi,f],.agg #[.bool ng,.int .i64 0,.int .i64 ex,.bool rs]] w fun e w' => e = .returned (.tuple #[.int .i64 0,.bool false]) ∧ Kept w w':=by
 go_enter Tryz.func73,Tryz.ntmps73
 go_wp2
 go_ret2
 exact ⟨rfl,((Kept.refl _).alloc _ _).alloc _ _⟩
abbrev pairC (n1 : Bool) (s1 : Value) (x1 : Int) (n2 : Bool) (s2 : Value) (x2 : Int) : Array Value:=#[.bool n1,s1,.int .i64 x1,.bool n2,s2,.int .i64 x2]
theorem addz_in_ok (w : World) (hT : Tab w) (n1 : Bool) (L1 : List Int) (x1 : Int) (hv1 : vld ⟨n1,L1,x1⟩ = true) (a1 : Option Addr) (c1 : Nat) (n2 : Bool) (L2 : List Int) (x2 : Int) (hv2 : vld ⟨n2,L2,x2⟩ = true) (a2 : Option Addr) (c2 : Nat)  (h1 : Sl w (.slice a1 L1.length c1) L1) (h2 : Sl w (.slice a2 L2.length c2) L2) (r : Nm) (hf : addZ ⟨n1,L1,x1⟩ ⟨n2,L2,x2⟩ = some r) (p q : Nat) (hp : p < w.heap.size) (hq : q < w.heap.size)  (cp0 : w.cell? ⟨p,0,none⟩ = some (.bool n1)) (cp1 : w.cell? ⟨p,1,none⟩ = some (.slice a1 L1.length c1)) (cp2 : w.cell? ⟨p,2,none⟩ = some (.int .i64 x1)) (cq0 : w.cell? ⟨q,0,none⟩ = some (.bool n2)) (cq1 : w.cell? ⟨q,1,none⟩ = some (.slice a2 L2.length c2)) (cq2 : w.cell? ⟨q,2,none⟩ = some (.int .i64 x2)) : Calls Tryz.prog 65 #[.pointer (some ⟨p,0,none⟩),.pointer (some ⟨q,0,none⟩)] w fun e w' => (∃ v,e = .returned v ∧ New w w' v r) ∧ Kept w w':=by
 have hK : Kept w (numW w):=(Kept.refl w).alloc _ _
 have hK2 : Kept (numW w) ((numW w).alloc (.cells (pairC n1 (.slice a1 L1.length c1) x1 n2 (.slice a2 L2.length c2) x2) 24)):=(Kept.refl _).alloc _ _
 have KS : Hid (Calls Tryz.prog 66 #[.slice (some ⟨w.heap.size + 1,0,none⟩) 2 2] ((numW w).alloc (.cells (pairC n1 (.slice a1 L1.length c1) x1 n2 (.slice a2 L2.length c2) x2) 24)) fun e w' => ToldR (some r) ((numW w).alloc (.cells (pairC n1 (.slice a1 L1.length c1) x1 n2 (.slice a2 L2.length c2) x2) 24)) w' e ∧ Kept (numW w) w'):=by
  have:=sum_any ((numW w).alloc (.cells (pairC n1 (.slice a1 L1.length c1) x1 n2 (.slice a2 L2.length c2) x2) 24)) (w.heap.size + 1) (by simp) (hT.kept (hK.trans hK2)) n1 L1 x1 (fun _ => hv1) (vld_zero n1 L1 x1 hv1) a1 c1 (h1.kept (hK.trans hK2)) n2 L2 x2 (fun _ => hv2) (vld_zero n2 L2 x2 hv2) a2 c2 (h2.kept (hK.trans hK2)) (by simp [go_sem]) (by simp [go_sem]) (by simp [go_sem]) (by simp [go_sem]) (by simp [go_sem]) (by simp [go_sem]) (some r) hf
  refine this.mono ?_
  rintro e w' ⟨hr,k⟩
  exact ⟨hr,hK2.trans k⟩
 have ep0 : (numW w).cell? ⟨p,0,none⟩ = some (.bool n1):=(hK.below.cell (p:=⟨p,0,none⟩) hp).trans cp0
 have ep1 : (numW w).cell? ⟨p,1,none⟩ = some (.slice a1 L1.length c1):=(hK.below.cell (p:=⟨p,1,none⟩) hp).trans cp1
 have ep2 : (numW w).cell? ⟨p,2,none⟩ = some (.int .i64 x1):=(hK.below.cell (p:=⟨p,2,none⟩) hp).trans cp2
 have eq0 : (numW w).cell? ⟨q,0,none⟩ = some (.bool n2):=(hK.below.cell (p:=⟨q,0,none⟩) hq).trans cq0
 have eq1 : (numW w).cell? ⟨q,1,none⟩ = some (.slice a2 L2.length c2):=(hK.below.cell (p:=⟨q,1,none⟩) hq).trans cq1
 have eq2 : (numW w).cell? ⟨q,2,none⟩ = some (.int .i64 x2):=(hK.below.cell (p:=⟨q,2,none⟩) hq).trans cq2
 clear h1 h2 hT hf hv1 hv2 cp0 cp1 cp2 cq0 cq1 cq2
 generalize L1.length = l1 at *
 generalize L2.length = l2 at *
 go_enter Tryz.func65,Tryz.ntmps65
 go_wp2_with (first | (go_at_call 66; refine KS.out.mono ?_; rintro e w1 ⟨⟨v,rfl,hN⟩,hk1⟩; obtain ⟨vn,va,vl,vc,vx,rfl⟩:=hN.shape; obtain ⟨f0,f1,f2,f3⟩:=num_cells hk1))
 have:=num_done (hN.from hK2) hk1 (.bool vn) (.slice va vl vc) (.int .i64 vx)
 exact bodyPost_ret (v:=.agg #[.bool vn,.slice va vl vc,.int .i64 vx]) (by simp [results,Tryz.results65,go_sem,f0,f1,f2]) rfl ⟨⟨_,rfl,this.1⟩,this.2⟩
theorem addz_in_no (w : World) (hT : Tab w) (n1 : Bool) (L1 : List Int) (x1 : Int) (hv1 : vld ⟨n1,L1,x1⟩ = true) (a1 : Option Addr) (c1 : Nat) (n2 : Bool) (L2 : List Int) (x2 : Int) (hv2 : vld ⟨n2,L2,x2⟩ = true) (a2 : Option Addr) (c2 : Nat)  (h1 : Sl w (.slice a1 L1.length c1) L1) (h2 : Sl w (.slice a2 L2.length c2) L2)  (hf : addZ ⟨n1,L1,x1⟩ ⟨n2,L2,x2⟩ = none) (p q : Nat) (hp : p < w.heap.size) (hq : q < w.heap.size)  (cp0 : w.cell? ⟨p,0,none⟩ = some (.bool n1)) (cp1 : w.cell? ⟨p,1,none⟩ = some (.slice a1 L1.length c1)) (cp2 : w.cell? ⟨p,2,none⟩ = some (.int .i64 x1)) (cq0 : w.cell? ⟨q,0,none⟩ = some (.bool n2)) (cq1 : w.cell? ⟨q,1,none⟩ = some (.slice a2 L2.length c2)) (cq2 : w.cell? ⟨q,2,none⟩ = some (.int .i64 x2)) : Calls Tryz.prog 65 #[.pointer (some ⟨p,0,none⟩),.pointer (some ⟨q,0,none⟩)] w fun e w' => e = .panicked gaveUp ∧ Kept w w':=by
 have hK : Kept w (numW w):=(Kept.refl w).alloc _ _
 have hK2 : Kept (numW w) ((numW w).alloc (.cells (pairC n1 (.slice a1 L1.length c1) x1 n2 (.slice a2 L2.length c2) x2) 24)):=(Kept.refl _).alloc _ _
 have KS : Hid (Calls Tryz.prog 66 #[.slice (some ⟨w.heap.size + 1,0,none⟩) 2 2] ((numW w).alloc (.cells (pairC n1 (.slice a1 L1.length c1) x1 n2 (.slice a2 L2.length c2) x2) 24)) fun e w' => ToldR (none) ((numW w).alloc (.cells (pairC n1 (.slice a1 L1.length c1) x1 n2 (.slice a2 L2.length c2) x2) 24)) w' e ∧ Kept (numW w) w'):=by
  have:=sum_any ((numW w).alloc (.cells (pairC n1 (.slice a1 L1.length c1) x1 n2 (.slice a2 L2.length c2) x2) 24)) (w.heap.size + 1) (by simp) (hT.kept (hK.trans hK2)) n1 L1 x1 (fun _ => hv1) (vld_zero n1 L1 x1 hv1) a1 c1 (h1.kept (hK.trans hK2)) n2 L2 x2 (fun _ => hv2) (vld_zero n2 L2 x2 hv2) a2 c2 (h2.kept (hK.trans hK2)) (by simp [go_sem]) (by simp [go_sem]) (by simp [go_sem]) (by simp [go_sem]) (by simp [go_sem]) (by simp [go_sem]) (none) hf
  refine this.mono ?_
  rintro e w' ⟨hr,k⟩
  exact ⟨hr,hK2.trans k⟩
 have ep0 : (numW w).cell? ⟨p,0,none⟩ = some (.bool n1):=(hK.below.cell (p:=⟨p,0,none⟩) hp).trans cp0
 have ep1 : (numW w).cell? ⟨p,1,none⟩ = some (.slice a1 L1.length c1):=(hK.below.cell (p:=⟨p,1,none⟩) hp).trans cp1
 have ep2 : (numW w).cell? ⟨p,2,none⟩ = some (.int .i64 x1):=(hK.below.cell (p:=⟨p,2,none⟩) hp).trans cp2
 have eq0 : (numW w).cell? ⟨q,0,none⟩ = some (.bool n2):=(hK.below.cell (p:=⟨q,0,none⟩) hq).trans cq0
 have eq1 : (numW w).cell? ⟨q,1,none⟩ = some (.slice a2 L2.length c2):=(hK.below.cell (p:=⟨q,1,none⟩) hq).trans cq1
 have eq2 : (numW w).cell? ⟨q,2,none⟩ = some (.int .i64 x2):=(hK.below.cell (p:=⟨q,2,none⟩) hq).trans cq2
 clear h1 h2 hT hf hv1 hv2 cp0 cp1 cp2 cq0 cq1 cq2
 generalize L1.length = l1 at *
 generalize L2.length = l2 at *
 go_enter Tryz.func65,Tryz.ntmps65
 go_wp2_with (first | (go_at_call 66; refine KS.out.mono ?_; rintro e w1 ⟨hr,hk1⟩; obtain rfl : e = .panicked gaveUp:=hr))
 exact ⟨rfl,rfl,hK.trans hk1⟩
abbrev addW (w : World) (v1 v2 c : Array Value) : World:=(((w.alloc (.cells v1 24)).alloc (.cells v2 24)).alloc nilNum).alloc (.cells c 24)
theorem addW_kept (w : World) (v1 v2 c : Array Value) : Kept w (addW w v1 v2 c):=((((Kept.refl w).alloc _ _).alloc _ _).alloc _ _).alloc _ _
theorem addz_ok (w : World) (hT : Tab w) (n1 : Bool) (L1 : List Int) (x1 : Int) (hv1 : vld ⟨n1,L1,x1⟩ = true) (a1 : Option Addr) (c1 : Nat) (n2 : Bool) (L2 : List Int) (x2 : Int) (hv2 : vld ⟨n2,L2,x2⟩ = true) (a2 : Option Addr) (c2 : Nat)  (h1 : Sl w (.slice a1 L1.length c1) L1) (h2 : Sl w (.slice a2 L2.length c2) L2) (r : Nm) (hf : addZ ⟨n1,L1,x1⟩ ⟨n2,L2,x2⟩ = some r) : Calls Tryz.prog 18 #[.agg #[.bool n1,.slice a1 L1.length c1,.int .i64 x1],.agg #[.bool n2,.slice a2 L2.length c2,.int .i64 x2]] w fun e w' => ∃ v,e = .returned (.tuple #[v,.int .i64 0]) ∧ New w w' v r ∧ Kept w w':=by
 have hW:=addW_kept w #[.bool n1,.slice a1 L1.length c1,.int .i64 x1] #[.bool n2,.slice a2 L2.length c2,.int .i64 x2] (pairC n1 (.slice a1 L1.length c1) x1 n2 (.slice a2 L2.length c2) x2)
 have hd1:=vld_dg _ _ _ hv1
 have hd2:=vld_dg _ _ _ hv2
 have KV : Hid (∀ w',Kept (addW w #[.bool n1,.slice a1 L1.length c1,.int .i64 x1] #[.bool n2,.slice a2 L2.length c2,.int .i64 x2] (pairC n1 (.slice a1 L1.length c1) x1 n2 (.slice a2 L2.length c2) x2)) w' → Calls Tryz.prog 109 #[.slice (some ⟨w.heap.size + 3,0,none⟩) 2 2] w' fun e w'' => e = .returned (.bool true) ∧ Kept w' w''):=fun u k => by
  have hb : w.heap.size + 3 < (addW w #[.bool n1,.slice a1 L1.length c1,.int .i64 x1] #[.bool n2,.slice a2 L2.length c2,.int .i64 x2] (pairC n1 (.slice a1 L1.length c1) x1 n2 (.slice a2 L2.length c2) x2)).heap.size:=by simp
  have:=allValid_2 u (w.heap.size + 3) 2 n1 n2 a1 a2 L1.length c1 L2.length c2 x1 x2 true true (Nat.lt_of_lt_of_le hb k.below.size) ((k.below.cell (p:=⟨w.heap.size + 3,0,none⟩) hb).trans (by simp [go_sem])) ((k.below.cell (p:=⟨w.heap.size + 3,1,none⟩) hb).trans (by simp [go_sem])) ((k.below.cell (p:=⟨w.heap.size + 3,2,none⟩) hb).trans (by simp [go_sem])) ((k.below.cell (p:=⟨w.heap.size + 3,3,none⟩) hb).trans (by simp [go_sem])) ((k.below.cell (p:=⟨w.heap.size + 3,4,none⟩) hb).trans (by simp [go_sem])) ((k.below.cell (p:=⟨w.heap.size + 3,5,none⟩) hb).trans (by simp [go_sem])) (fun v kv => ?_) (fun v kv => ?_)
  ·exact this
  ·have:=xvalid_any ⟨n1,L1,x1⟩ hd1.2.rg (by dsimp only; omega) (.agg #[.bool n1,.slice a1 L1.length c1,.int .i64 x1]) v ⟨_,rfl,((h1.kept hW).kept k).kept kv⟩
   rw [hv1] at this
   exact this
  ·have:=xvalid_any ⟨n2,L2,x2⟩ hd2.2.rg (by dsimp only; omega) (.agg #[.bool n2,.slice a2 L2.length c2,.int .i64 x2]) v ⟨_,rfl,((h2.kept hW).kept k).kept kv⟩
   rw [hv2] at this
   exact this
 have KT : Hid (Calls Tryz.prog 62 #[.func (.func 65) #[] #[.pointer (some ⟨w.heap.size,0,none⟩),.pointer (some ⟨w.heap.size + 1,0,none⟩)],.slice (some ⟨w.heap.size + 3,0,none⟩) 2 2] (addW w #[.bool n1,.slice a1 L1.length c1,.int .i64 x1] #[.bool n2,.slice a2 L2.length c2,.int .i64 x2] (pairC n1 (.slice a1 L1.length c1) x1 n2 (.slice a2 L2.length c2) x2)) fun e w' => ∃ v,e = .returned (.tuple #[v,.int .i64 0]) ∧ New (addW w #[.bool n1,.slice a1 L1.length c1,.int .i64 x1] #[.bool n2,.slice a2 L2.length c2,.int .i64 x2] (pairC n1 (.slice a1 L1.length c1) x1 n2 (.slice a2 L2.length c2) x2)) w' v r ∧ Kept (addW w #[.bool n1,.slice a1 L1.length c1,.int .i64 x1] #[.bool n2,.slice a2 L2.length c2,.int .i64 x2] (pairC n1 (.slice a1 L1.length c1) x1 n2 (.slice a2 L2.length c2) x2)) w'):=by
  refine told_ok 65 _ (fun w => call_of Tryz.func65 (by kernel_rfl) (by kernel_rfl) _ w) _ r _ KV (fun u k => ?_)
  have hs:=k.below.size
  simp only [addW,World.size_alloc] at hs
  exact addz_in_ok u ((hT.kept hW).kept k) n1 L1 x1 hv1 a1 c1 n2 L2 x2 hv2 a2 c2 ((h1.kept hW).kept k) ((h2.kept hW).kept k) r hf _ _ (by omega) (by omega) ((k.below.cell (p:=⟨w.heap.size,0,none⟩) (by simp <;> omega)).trans (by simp [go_sem])) ((k.below.cell (p:=⟨w.heap.size,1,none⟩) (by simp <;> omega)).trans (by simp [go_sem])) ((k.below.cell (p:=⟨w.heap.size,2,none⟩) (by simp <;> omega)).trans (by simp [go_sem])) ((k.below.cell (p:=⟨w.heap.size + 1,0,none⟩) (by simp <;> omega)).trans (by simp [go_sem])) ((k.below.cell (p:=⟨w.heap.size + 1,1,none⟩) (by simp <;> omega)).trans (by simp [go_sem])) ((k.below.cell (p:=⟨w.heap.size + 1,2,none⟩) (by simp <;> omega)).trans (by simp [go_sem]))
 have hmf : ∀ (fn : Fn) (first cap : Array Value) (w : World),(Instr.makeFunc fn first cap).run Tryz.prog w = .ok (.func fn first cap) w:=fun _ _ _ _ => rfl
 clear h1 h2 hT hf hv1 hv2 KV hd1 hd2
 generalize L1.length = l1 at *
 generalize L2.length = l2 at *
 go_enter Tryz.func18,Tryz.ntmps18
 go_wp2_with (first | (go_at_call 62; refine KT.out.mono ?_; rintro e w1 ⟨v,rfl,hN,hk1⟩; obtain ⟨vn,va,vl,vc,vx,rfl⟩:=hN.shape; obtain ⟨f0,f1,f2,f3⟩:=res_cells (w.heap.size + 2) (by simp <;> omega) hk1 (by simp [go_sem]) (by simp [go_sem]) (by simp [go_sem]) (fun o => by simp [go_sem])))
 have:=res_done (w.heap.size + 2) (by omega) (by simp <;> omega) hW hN hk1 (.bool vn) (.slice va vl vc) (.int .i64 vx)
 refine bodyPost_ret (v:=.tuple #[.agg #[.bool vn,.slice va vl vc,.int .i64 vx],.int .i64 0]) (by simp [results,Tryz.results18,go_sem,f0,f1,f2]) rfl ⟨_,rfl,this.1,this.2⟩
theorem addz_no (w : World) (hT : Tab w) (n1 : Bool) (L1 : List Int) (x1 : Int) (hv1 : vld ⟨n1,L1,x1⟩ = true) (a1 : Option Addr) (c1 : Nat) (n2 : Bool) (L2 : List Int) (x2 : Int) (hv2 : vld ⟨n2,L2,x2⟩ = true) (a2 : Option Addr) (c2 : Nat)  (h1 : Sl w (.slice a1 L1.length c1) L1) (h2 : Sl w (.slice a2 L2.length c2) L2)  (hf : addZ ⟨n1,L1,x1⟩ ⟨n2,L2,x2⟩ = none) : Calls Tryz.prog 18 #[.agg #[.bool n1,.slice a1 L1.length c1,.int .i64 x1],.agg #[.bool n2,.slice a2 L2.length c2,.int .i64 x2]] w fun e w' => e = .returned (.tuple #[zeroNum,.int .i64 2]) ∧ Kept w w':=by
 have hW:=addW_kept w #[.bool n1,.slice a1 L1.length c1,.int .i64 x1] #[.bool n2,.slice a2 L2.length c2,.int .i64 x2] (pairC n1 (.slice a1 L1.length c1) x1 n2 (.slice a2 L2.length c2) x2)
 have hd1:=vld_dg _ _ _ hv1
 have hd2:=vld_dg _ _ _ hv2
 have KV : Hid (∀ w',Kept (addW w #[.bool n1,.slice a1 L1.length c1,.int .i64 x1] #[.bool n2,.slice a2 L2.length c2,.int .i64 x2] (pairC n1 (.slice a1 L1.length c1) x1 n2 (.slice a2 L2.length c2) x2)) w' → Calls Tryz.prog 109 #[.slice (some ⟨w.heap.size + 3,0,none⟩) 2 2] w' fun e w'' => e = .returned (.bool true) ∧ Kept w' w''):=fun u k => by
  have hb : w.heap.size + 3 < (addW w #[.bool n1,.slice a1 L1.length c1,.int .i64 x1] #[.bool n2,.slice a2 L2.length c2,.int .i64 x2] (pairC n1 (.slice a1 L1.length c1) x1 n2 (.slice a2 L2.length c2) x2)).heap.size:=by simp
  have:=allValid_2 u (w.heap.size + 3) 2 n1 n2 a1 a2 L1.length c1 L2.length c2 x1 x2 true true (Nat.lt_of_lt_of_le hb k.below.size) ((k.below.cell (p:=⟨w.heap.size + 3,0,none⟩) hb).trans (by simp [go_sem])) ((k.below.cell (p:=⟨w.heap.size + 3,1,none⟩) hb).trans (by simp [go_sem])) ((k.below.cell (p:=⟨w.heap.size + 3,2,none⟩) hb).trans (by simp [go_sem])) ((k.below.cell (p:=⟨w.heap.size + 3,3,none⟩) hb).trans (by simp [go_sem])) ((k.below.cell (p:=⟨w.heap.size + 3,4,none⟩) hb).trans (by simp [go_sem])) ((k.below.cell (p:=⟨w.heap.size + 3,5,none⟩) hb).trans (by simp [go_sem])) (fun v kv => ?_) (fun v kv => ?_)
  ·exact this
  ·have:=xvalid_any ⟨n1,L1,x1⟩ hd1.2.rg (by dsimp only; omega) (.agg #[.bool n1,.slice a1 L1.length c1,.int .i64 x1]) v ⟨_,rfl,((h1.kept hW).kept k).kept kv⟩
   rw [hv1] at this
   exact this
  ·have:=xvalid_any ⟨n2,L2,x2⟩ hd2.2.rg (by dsimp only; omega) (.agg #[.bool n2,.slice a2 L2.length c2,.int .i64 x2]) v ⟨_,rfl,((h2.kept hW).kept k).kept kv⟩
   rw [hv2] at this
   exact this
 have KT : Hid (Calls Tryz.prog 62 #[.func (.func 65) #[] #[.pointer (some ⟨w.heap.size,0,none⟩),.pointer (some ⟨w.heap.size + 1,0,none⟩)],.slice (some ⟨w.heap.size + 3,0,none⟩) 2 2] (addW w #[.bool n1,.slice a1 L1.length c1,.int .i64 x1] #[.bool n2,.slice a2 L2.length c2,.int .i64 x2] (pairC n1 (.slice a1 L1.length c1) x1 n2 (.slice a2 L2.length c2) x2)) fun e w' => e = .returned (.tuple #[zeroNum,.int .i64 2]) ∧ Kept (addW w #[.bool n1,.slice a1 L1.length c1,.int .i64 x1] #[.bool n2,.slice a2 L2.length c2,.int .i64 x2] (pairC n1 (.slice a1 L1.length c1) x1 n2 (.slice a2 L2.length c2) x2)) w'):=by
  refine told_no 65 _ (fun w => call_of Tryz.func65 (by kernel_rfl) (by kernel_rfl) _ w) _  _ KV (fun u k => ?_)
  have hs:=k.below.size
  simp only [addW,World.size_alloc] at hs
  exact addz_in_no u ((hT.kept hW).kept k) n1 L1 x1 hv1 a1 c1 n2 L2 x2 hv2 a2 c2 ((h1.kept hW).kept k) ((h2.kept hW).kept k)  hf _ _ (by omega) (by omega) ((k.below.cell (p:=⟨w.heap.size,0,none⟩) (by simp <;> omega)).trans (by simp [go_sem])) ((k.below.cell (p:=⟨w.heap.size,1,none⟩) (by simp <;> omega)).trans (by simp [go_sem])) ((k.below.cell (p:=⟨w.heap.size,2,none⟩) (by simp <;> omega)).trans (by simp [go_sem])) ((k.below.cell (p:=⟨w.heap.size + 1,0,none⟩) (by simp <;> omega)).trans (by simp [go_sem])) ((k.below.cell (p:=⟨w.heap.size + 1,1,none⟩) (by simp <;> omega)).trans (by simp [go_sem])) ((k.below.cell (p:=⟨w.heap.size + 1,2,none⟩) (by simp <;> omega)).trans (by simp [go_sem]))
 have hmf : ∀ (fn : Fn) (first cap : Array Value) (w : World),(Instr.makeFunc fn first cap).run Tryz.prog w = .ok (.func fn first cap) w:=fun _ _ _ _ => rfl
 clear h1 h2 hT hf hv1 hv2 KV hd1 hd2
 generalize L1.length = l1 at *
 generalize L2.length = l2 at *
 go_enter Tryz.func18,Tryz.ntmps18
 go_wp2_with (first | (go_at_call 62; refine KT.out.mono ?_; rintro e w1 ⟨rfl,hk1⟩; obtain ⟨f0,f1,f2,f3⟩:=res_cells (w.heap.size + 2) (by simp <;> omega) hk1 (by simp [go_sem]) (by simp [go_sem]) (by simp [go_sem]) (fun o => by simp [go_sem])))
 refine bodyPost_ret (v:=.tuple #[zeroNum,.int .i64 2]) (by simp [results,Tryz.results18,go_sem,f0,f1,f2]) rfl ⟨rfl,res_kept (w.heap.size + 2) (by omega) hW hk1 _ _ _⟩
/-! ### Int -/
theorem own_three (w : World) (a b c : Int) : Own (w.alloc (.cells #[.int .i64 a,.int .i64 b,.int .i64 c] 3)) w.heap.size 3 [a,b,c] :=
 ⟨_,heap_alloc_new w _,Nat.le_refl _,by simp [maxLen],by simp,by simp⟩
theorem int_pos (n : Int) (h0 : 0 ≤ n) (h1 : n ≤ 9223372036854775807) (r : Nm) (hf : frm (decide (n < 0)) n.natAbs 0 = some r) (w : World) (hT : Tab w) : Calls Tryz.prog 24 #[.int .i64 n] w fun e w' => (∃ v,e = .returned v ∧ New w w' v r) ∧ Kept w w':=by
 have hK : Kept w (numW w):=(Kept.refl w).alloc _ _
 obtain ⟨s,hs⟩ : ∃ s : Int,s = (n.natAbs : Int):=⟨_,rfl⟩
 have hs1 : 0 ≤ s ∧ s ≤ 9223372036854775808:=by omega
 have hw1 : IntKind.u64.wrap n = if n < 0 then n + 18446744073709551616 else n:=by rw [IntKind.wrap_u64]; split <;> omega
 have KD : Hid (Calls Tryz.prog 61 #[.int .u64 s] (numW w) fun e w' => e = .returned (.slice (some ⟨(numW w).heap.size,0,none⟩) 3 3) ∧ w' = (numW w).alloc (.cells #[.int .i64 (s % 1073741824),.int .i64 (s / 1073741824 % 1073741824),.int .i64 (s / 1152921504606846976)] 3)):=digitsOf_any s hs1.1 (by omega) (numW w)
 have hO:=own_three (numW w) (s % 1073741824) (s / 1073741824 % 1073741824) (s / 1152921504606846976)
 have hDg : Dg [s % 1073741824,s / 1073741824 % 1073741824,s / 1152921504606846976]:=Dg.cons (by omega) (by omega) (Dg.cons (by omega) (by omega) (Dg.cons (by omega) (by omega) Dg.nil))
 have hnv : nv [s % 1073741824,s / 1073741824 % 1073741824,s / 1152921504606846976] = n.natAbs:=by
  show (s % 1073741824).toNat + 1073741824 * ((s / 1073741824 % 1073741824).toNat + 1073741824 * ((s / 1152921504606846976).toNat + 1073741824 * 0)) = n.natAbs
  omega
 have hK2 : Kept (numW w) ((numW w).alloc (.cells #[.int .i64 (s % 1073741824),.int .i64 (s / 1073741824 % 1073741824),.int .i64 (s / 1152921504606846976)] 3)):=(Kept.refl _).alloc _ _
 have KF : Hid (Calls Tryz.prog 60 #[.bool (decide (n < 0)),.slice (some ⟨(numW w).heap.size,0,none⟩) 3 3,.int .i64 0] ((numW w).alloc (.cells #[.int .i64 (s % 1073741824),.int .i64 (s / 1073741824 % 1073741824),.int .i64 (s / 1152921504606846976)] 3)) fun e w' => (∃ v,e = .returned v ∧ New (numW w) w' v r) ∧ Kept (numW w) w'):=form_ok _ _ hDg (by simp) _ 3 0 (numW w) _ hK2 (Nat.le_refl _) hO (hT.kept (hK.trans hK2)) r (by rw [hnv]; exact hf)
 clear hO hDg hnv hf hT
 simp only [World.size_alloc] at KD KF
 have hneg : ¬ n < 0:=by omega
 ·rw [if_neg hneg] at hw1
  have hsn : s = n:=by omega
  subst hsn
  rw [decide_eq_false hneg] at KF
  clear hs hs1 h1
  go_enter Tryz.func24,Tryz.ntmps24
  go_wp2_with (first | (go_at_call 61; refine KD.out.mono ?_; rintro e w1 ⟨rfl,rfl⟩) | (go_at_call 60; refine KF.out.mono ?_; rintro e w2 ⟨⟨v,rfl,hN⟩,hk1⟩; obtain ⟨vn,va,vl,vc,vx,rfl⟩:=hN.shape; obtain ⟨f0,f1,f2,f3⟩:=num_cells hk1))
  have:=num_done hN hk1 (.bool vn) (.slice va vl vc) (.int .i64 vx)
  exact bodyPost_ret (v:=.agg #[.bool vn,.slice va vl vc,.int .i64 vx]) (by simp [results,Tryz.results24,go_sem,f0,f1,f2]) rfl ⟨⟨_,rfl,this.1⟩,this.2⟩
end Go.Proofs.YtoflafgbbjinpaaGreatDoor
