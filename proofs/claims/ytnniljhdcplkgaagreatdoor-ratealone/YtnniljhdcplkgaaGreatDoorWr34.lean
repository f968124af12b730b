/- exact's quotient of any two valid numbers that are not 0; what rounding asks of it. exact.Quot of any two valid numbers,the second one not 0. A quotient's cut,by values; exact.Quot rounded down. exact.Quot rounded down,by products. -/
import Derived.Test.YtnniljhdcplkgaaGreatDoorWr33
import Derived.Test.YtnniljhdcplkgaaGreatDoorWr32
namespace Go.Proofs.YtnniljhdcplkgaaGreatDoor
open Go.ChangeShapes Go.WideShapes Go.ChangeAt Go.RowKit
set_option maxHeartbeats 16000000
set_option maxRecDepth 100000
set_option linter.unusedVariables false
set_option linter.unusedSimpArgs false
def qA (a b : Nm) : Nat:=flo (nv a.mag) (30 * ((b.mag.length : Int) + 2) - (bl (nv a.mag) : Int))
def qlw (a b : Nm) : Int:=(bl (nv a.mag) : Int) - (((b.mag.length : Int) + 2) * 30)
def qex (a b : Nm) : Int:=a.exp - b.exp + (bl (nv a.mag) : Int) - (bl (nv b.mag) : Int) - 60
def qrs (a b : Nm) : Bool:=decide (0 < qlw a b) || decide (qA a b % qU b ≠ 0)
theorem qA_bounds (a b : Nm) (ha : vld a = true) (hne : a.mag ≠ []) : 2 ^ (30 * b.mag.length + 59) ≤ qA a b ∧ qA a b < 2 ^ (30 * (b.mag.length + 2)):=by
 have h0:=nv_ne a ha hne
 obtain ⟨b1,b2,b3⟩:=bl_pos (nv a.mag) h0
 have:=flo_bounds (nv a.mag) (bl (nv a.mag)) (30 * ((b.mag.length : Int) + 2) - (bl (nv a.mag) : Int)) b1 b2 b3 (by omega)
 rw [show ((bl (nv a.mag) : Int) - 1 + (30 * ((b.mag.length : Int) + 2) - (bl (nv a.mag) : Int))).toNat = 30 * b.mag.length + 59 by omega,show ((bl (nv a.mag) : Int) + (30 * ((b.mag.length : Int) + 2) - (bl (nv a.mag) : Int))).toNat = 30 * (b.mag.length + 2) by omega] at this
 exact this
theorem qh_bounds (a b : Nm) (ha : vld a = true) (hb : vld b = true) (h1 : a.mag ≠ []) (h2 : b.mag ≠ []) : 2 ^ 59 ≤ qA a b / qU b ∧ qA a b / qU b < 2 ^ 61:=by
 obtain ⟨u1,u2⟩:=qU_bounds b hb h2
 obtain ⟨a1,a2⟩:=qA_bounds a b ha h1
 have hl:=List.length_pos_iff.2 h2
 have hU0 : 0 < qU b:=Nat.lt_of_lt_of_le (Nat.two_pow_pos _) u1
 constructor
 ·rw [Nat.le_div_iff_mul_le hU0]
  refine Nat.le_trans (Nat.mul_le_mul_left _ (Nat.le_of_lt u2)) ?_
  rw [← Nat.pow_add,Nat.add_comm]
  exact a1
 ·rw [Nat.div_lt_iff_lt_mul hU0]
  refine Nat.lt_of_lt_of_le a2 (Nat.le_trans ?_ (Nat.mul_le_mul_left _ u1))
  rw [← Nat.pow_add]
  exact Nat.pow_le_pow_right (by decide) (by omega)
theorem dv_digits (V : Nat) (hV : V < 2 ^ 61) : ∃ Q0 Q1 Q2 G0 H1 G1 : Nat,Q0 = dg V 2 ∧ Q1 = dg V 1 ∧ Q2 = dg V 0 ∧ IntKind.i64.wrap ((Q0 : Int) * 1073741824) = (G0 : Int) ∧ bits .or .i64 (G0 : Int) (Q1 : Int) = (H1 : Int) ∧ IntKind.i64.wrap ((H1 : Int) * 1073741824) = (G1 : Int) ∧ bits .or .i64 (G1 : Int) (Q2 : Int) = (V : Int) ∧ bits .or .i64 0 (Q0 : Int) = (Q0 : Int):=by
 have e0 : dg V 0 = V % 1073741824:=by unfold dg; simp
 have e1 : dg V 1 = V / 1073741824 % 1073741824:=by unfold dg; simp
 have e2 : dg V 2 = V / 1152921504606846976 % 1073741824:=by unfold dg; simp
 have hV' : V < 2305843009213693952:=by simpa using hV
 obtain ⟨G0,H1,a1,a2,a3,a4⟩:=or_head2 (dg V 1) (dg V 2) (dg_lt V 1) (by rw [e2]; omega)
 obtain ⟨G1,H2,b1,b2,b3,b4⟩:=or_head2 (dg V 0) H1 (dg_lt V 0) (by rw [a4,a3,e1,e2]; omega)
 have hH : H2 = V:=by rw [b4,b3,a4,a3,e0,e1,e2]; omega
 exact ⟨_,_,_,G0,H1,G1,rfl,rfl,rfl,a1,a2,b1,b2.trans (by rw [hH]),or_zero _ (dg_lt V 2)⟩
theorem quotient_any (a b : Nm) (ha : vld a = true) (hb : vld b = true) (h1 : a.mag ≠ []) (h2 : b.mag ≠ []) (a1 a2 : Option Addr) (c1 c2 : Nat) (w : World) (hs1 : Sl w (.slice a1 a.mag.length c1) a.mag) (hs2 : Sl w (.slice a2 b.mag.length c2) b.mag) : Calls Tryz.prog 101 #[.agg #[.bool a.neg,.slice a1 a.mag.length c1,.int .i64 a.exp],.agg #[.bool b.neg,.slice a2 b.mag.length c2,.int .i64 b.exp]] w fun e w' => e = .returned (.agg #[.bool (a.neg != b.neg),.int .i64 ((qA a b / qU b : Nat) : Int),.int .i64 (qex a b),.bool (qrs a b)]) ∧ Kept w w':=by
 obtain ⟨Q0,Q1,Q2,G0,H1,G1,rfl,rfl,rfl,s1,s2,s3,s4,zz⟩:=dv_digits (qA a b / qU b) (qh_bounds a b ha hb h1 h2).2
 have eV : dV 2 a b = qA a b / qU b:=rfl
 have eE : dex 2 a b = qex a b:=by unfold dex qex; omega
 have eR : drs 2 a b = qrs a b:=rfl
 refine quot_walk a.neg b.neg _ rfl a1 a2 a.mag.length c1 b.mag.length c2 (List.length_pos_iff.2 h1) a.exp b.exp (qex a b) (qrs a b) _ _ _ G0 H1 G1 _ s1 s2 s3 s4 zz w (fun u k => ?_)
 refine (divided_any 2 (by decide) (by decide) a b ha hb h1 h2 a1 a2 c1 c2 u (hs1.kept k) (hs2.kept k)).mono ?_
 rintro e w' ⟨h,rfl,hh,ho,hk⟩
 rw [eE,eR]
 rw [eV] at ho
 have hlen:=dvl_len (qA a b / qU b) 2 3
 have hg : ∀ i,i < 3 → w'.cell? ⟨h,i,none⟩ = some (.int .i64 ((dg (qA a b / qU b) i : Nat) : Int)):=fun i hi => by
  have:=ho.cell i (by rw [hlen]; exact hi)
  rw [this,dvl_full,getD_range _ _ _ hi]
 exact ⟨h,rfl,hg 0 (by decide),hg 1 (by decide),hg 2 (by decide),hk⟩
end Go.Proofs.YtnniljhdcplkgaaGreatDoor
namespace Go.Proofs.YtnniljhdcplkgaaGreatDoor
open Go.ChangeShapes Go.WideShapes Go.ChangeAt Go.RowKit
set_option maxHeartbeats 16000000
set_option maxRecDepth 100000
set_option linter.unusedVariables false
set_option linter.unusedSimpArgs false
theorem xquot (way : Int) (fv : Nat) (n pr le fi : Int) (n1 n2 : Bool) (a1 a2 : Option Addr) (l1 c1 l2 c2 : Nat) (x1 x2 res sg2 : Int) (ox : Bool) (hsg : (sg2 == 0) = false) (y0 y1 y2 y3 : Value) (w : World)
  (KR : Hid (Calls Tryz.prog 98 #[.int .i64 n,.int .i64 way,.slice (some ⟨w.heap.size + 2,0,none⟩) 2 2] (((w.alloc (.cells #[.bool n1,.slice a1 l1 c1,.int .i64 x1] 43)).alloc (.cells #[.bool n2,.slice a2 l2 c2,.int .i64 x2] 43)).alloc (.cells (pairC n1 (.slice a1 l1 c1) x1 n2 (.slice a2 l2 c2) x2) 43)) fun e w' => e = .returned (.tuple #[.agg #[.int .i64 n,.int .i64 pr,.int .i64 le,.int .i64 fi,.func (.func fv) #[] #[]],.int .i64 0]) ∧ Kept (((w.alloc (.cells #[.bool n1,.slice a1 l1 c1,.int .i64 x1] 43)).alloc (.cells #[.bool n2,.slice a2 l2 c2,.int .i64 x2] 43)).alloc (.cells (pairC n1 (.slice a1 l1 c1) x1 n2 (.slice a2 l2 c2) x2) 43)) w'))
  (KG : Hid (∀ u,Kept w u → Calls Tryz.prog 99 #[.agg #[.bool n2,.slice a2 l2 c2,.int .i64 x2]] u fun e w' => e = .returned (.int .i64 sg2) ∧ Kept u w'))
  (KQ : Hid (∀ u,Kept w u → Calls Tryz.prog 101 #[.agg #[.bool n1,.slice a1 l1 c1,.int .i64 x1],.agg #[.bool n2,.slice a2 l2 c2,.int .i64 x2]] u fun e w' => e = .returned (.agg #[y0,y1,y2,y3]) ∧ Kept u w'))
  (KO : Hid (∀ u,Kept w u → Calls Tryz.prog 100 #[.agg #[.int .i64 n,.int .i64 pr,.int .i64 le,.int .i64 fi,.func (.func fv) #[] #[]],.agg #[y0,y1,y2,y3]] u fun e w' => e = .returned (.tuple #[.int .i64 res,.bool ox]) ∧ Kept u w')) :
  Calls Tryz.prog 68 #[.agg #[.bool n1,.slice a1 l1 c1,.int .i64 x1],.agg #[.bool n2,.slice a2 l2 c2,.int .i64 x2],.int .i64 n,.int .i64 way] w fun e w' => e = .returned (.tuple #[.int .i64 res,.bool ox,.int .i64 0]) ∧ Kept w w':=by
 have hK : Kept w (((w.alloc (.cells #[.bool n1,.slice a1 l1 c1,.int .i64 x1] 43)).alloc (.cells #[.bool n2,.slice a2 l2 c2,.int .i64 x2] 43)).alloc (.cells (pairC n1 (.slice a1 l1 c1) x1 n2 (.slice a2 l2 c2) x2) 43)):=(((Kept.refl w).alloc _ _).alloc _ _).alloc _ _
 have hsg2 : ¬ sg2 = 0:=by simpa using hsg
 go_enter Tryz.func68,Tryz.ntmps68
 go_wp2_with fail
 refine KR.out.mono ?_
 rintro e w1 ⟨rfl,hk1⟩
 have HS : Hid (∀ u,Kept (w1.alloc (.cells #[.int .i64 n,.int .i64 pr,.int .i64 le,.int .i64 fi,.func (.func fv) #[] #[]] 112)) u → u.cell? ⟨w1.heap.size,0,none⟩ = some (.int .i64 n) ∧ u.cell? ⟨w1.heap.size,1,none⟩ = some (.int .i64 pr) ∧ u.cell? ⟨w1.heap.size,2,none⟩ = some (.int .i64 le) ∧ u.cell? ⟨w1.heap.size,3,none⟩ = some (.int .i64 fi) ∧ u.cell? ⟨w1.heap.size,4,none⟩ = some (.func (.func fv) #[] #[]) ∧ u.cell? ⟨w.heap.size,0,none⟩ = some (.bool n1) ∧ u.cell? ⟨w.heap.size,1,none⟩ = some (.slice a1 l1 c1) ∧ u.cell? ⟨w.heap.size,2,none⟩ = some (.int .i64 x1) ∧ u.cell? ⟨w.heap.size + 1,0,none⟩ = some (.bool n2) ∧ u.cell? ⟨w.heap.size + 1,1,none⟩ = some (.slice a2 l2 c2) ∧ u.cell? ⟨w.heap.size + 1,2,none⟩ = some (.int .i64 x2)):=fun u k => ⟨(laid_cell k 0).trans (by simp [go_sem]),(laid_cell k 1).trans (by simp [go_sem]),(laid_cell k 2).trans (by simp [go_sem]),(laid_cell k 3).trans (by simp [go_sem]),(laid_cell k 4).trans (by simp [go_sem]),((hk1.trans ((Kept.refl w1).alloc _ _ |>.trans k)).below.cell (p:=⟨w.heap.size,0,none⟩) (by simp <;> omega)).trans (by simp [go_sem]),((hk1.trans ((Kept.refl w1).alloc _ _ |>.trans k)).below.cell (p:=⟨w.heap.size,1,none⟩) (by simp <;> omega)).trans (by simp [go_sem]),((hk1.trans ((Kept.refl w1).alloc _ _ |>.trans k)).below.cell (p:=⟨w.heap.size,2,none⟩) (by simp <;> omega)).trans (by simp [go_sem]),((hk1.trans ((Kept.refl w1).alloc _ _ |>.trans k)).below.cell (p:=⟨w.heap.size + 1,0,none⟩) (by simp <;> omega)).trans (by simp [go_sem]),((hk1.trans ((Kept.refl w1).alloc _ _ |>.trans k)).below.cell (p:=⟨w.heap.size + 1,1,none⟩) (by simp <;> omega)).trans (by simp [go_sem]),((hk1.trans ((Kept.refl w1).alloc _ _ |>.trans k)).below.cell (p:=⟨w.heap.size + 1,2,none⟩) (by simp <;> omega)).trans (by simp [go_sem])⟩
 have hsz : w.heap.size + 3 ≤ w1.heap.size:=by have:=hk1.below.size; simpa using this
 obtain ⟨q0,q1,q2,q3,q4,q5,q6,q7,q8,q9,qq⟩:=HS.out _ (Kept.refl _)
 go_wp2_with fail
 refine (KG.out _ (hK.trans (hk1.alloc _ _))).mono ?_
 rintro e w2 ⟨rfl,hk2⟩
 clear q0 q1 q2 q3 q4 q5 q6 q7 q8 q9 qq
 have hkk : Kept w w2:=hK.trans (hk1.trans (((Kept.refl w1).alloc _ _).trans hk2))
 go_wp2
 refine wp_region_held_drew (S:=fun u => u.cell? ⟨w1.heap.size,0,none⟩ = some (.int .i64 n) ∧ u.cell? ⟨w1.heap.size,1,none⟩ = some (.int .i64 pr) ∧ u.cell? ⟨w1.heap.size,2,none⟩ = some (.int .i64 le) ∧ u.cell? ⟨w1.heap.size,3,none⟩ = some (.int .i64 fi) ∧ u.cell? ⟨w1.heap.size,4,none⟩ = some (.func (.func fv) #[] #[]) ∧ u.cell? ⟨w.heap.size,0,none⟩ = some (.bool n1) ∧ u.cell? ⟨w.heap.size,1,none⟩ = some (.slice a1 l1 c1) ∧ u.cell? ⟨w.heap.size,2,none⟩ = some (.int .i64 x1) ∧ u.cell? ⟨w.heap.size + 1,0,none⟩ = some (.bool n2) ∧ u.cell? ⟨w.heap.size + 1,1,none⟩ = some (.slice a2 l2 c2) ∧ u.cell? ⟨w.heap.size + 1,2,none⟩ = some (.int .i64 x2)) (by kernel_rfl) (HS.out _ hk2.drew) (fun hHeld => ?_)
 refine tk (i:=0) (v:=?_) rfl ?_
 simp only [Act.put,zA,zB,zC,zD,zE,zF]
 refine tk (i:=1) (v:=?_) rfl ?_
 simp only [Act.put,zA,zB,zC,zD,zE,zF]
 refine tk (i:=2) (v:=?_) rfl ?_
 simp only [Act.put,zA,zB,zC,zD,zE,zF]
 refine wpAnyH_ready (rs:=[3]) (by kernel_rfl) (by simp) ?_
 refine AllReadyH.cons rfl (fun K hK9 => ?_) AllReadyH.nil
 go_simp
 go_wp2_with fail
 refine (KQ.out _ hkk.drew).mono ?_
 rintro e w3 ⟨rfl,hk3⟩
 refine hK9.out _ _ (HS.out _ (hk2.drew.trans hk3)) (fun hHeld2 => ?_)
 clear hK9 K hHeld
 refine wpAnyH_ready (rs:=[4]) (by kernel_rfl) (by simp) ?_
 refine AllReadyH.cons rfl (fun K hK9 => ?_) AllReadyH.nil
 go_simp
 go_wp2_with fail
 refine (KO.out _ (hkk.drew.trans hk3)).mono ?_
 rintro e w4 ⟨rfl,hk4⟩
 refine hK9.out _ _ (HS.out _ (hk2.drew.trans (hk3.trans hk4))) (fun hHeld => ?_)
 clear hK9 K hHeld2
 refine tk (i:=5) (v:=?_) rfl ?_
 simp only [Act.put,zA,zB,zC,zD,zE,zF]
 refine tk (i:=6) (v:=?_) rfl ?_
 simp only [Act.put,zA,zB,zC,zD,zE,zF]
 refine tk (i:=7) (v:=?_) rfl ?_
 simp only [Act.put,zA,zB,zC,zD,zE,zF]
 refine tk (i:=8) (v:=?_) rfl ?_
 simp only [Act.put,zA,zB,zC,zD,zE,zF]
 refine tk (i:=9) (v:=?_) rfl ?_
 simp only [Act.put,zA,zB,zC,zD,zE,zF]
 refine wpAnyH_done (by kernel_rfl) ?_ _
 clear hHeld
 go_wp2
 refine bodyPost_ret (v:=.tuple #[.int .i64 res,.bool ox,.int .i64 0]) (by simp [results,Tryz.results68,go_sem]) rfl ⟨rfl,hkk.drew.trans (hk3.trans hk4)⟩
end Go.Proofs.YtnniljhdcplkgaaGreatDoor
namespace Go.Proofs.YtnniljhdcplkgaaGreatDoor
open Go.ChangeShapes Go.WideShapes Go.ChangeAt Go.RowKit
set_option maxHeartbeats 16000000
set_option maxRecDepth 100000
set_option linter.unusedVariables false
set_option linter.unusedSimpArgs false
theorem half_iff (V H : Nat) (hH : 0 < H) : (V / H % 2 = 1) ↔ H ≤ V % (2 * H):=by
 have e1 : V / H = 2 * (V / (2 * H)) + V % (2 * H) / H:=by
  have hdm:=Nat.div_add_mod V (2 * H)
  have : V = V % (2 * H) + H * (2 * (V / (2 * H))):=by
   rw [← Nat.mul_assoc,Nat.mul_comm H 2]; omega
  rw [show V / H = (V % (2 * H) + H * (2 * (V / (2 * H)))) / H by rw [← this],Nat.add_mul_div_left _ _ hH]; omega
 have e2 : V % (2 * H) < 2 * H:=Nat.mod_lt _ (by omega)
 rw [e1]
 constructor
 ·intro h
  apply Decidable.byContradiction
  intro hn
  have hz : V % (2 * H) / H = 0:=Nat.div_eq_of_lt (by omega)
  omega
 ·intro h
  have : V % (2 * H) / H = 1:=by
   rw [show V % (2 * H) = (V % (2 * H) - H) + H * 1 by omega,Nat.add_mul_div_left _ _ hH,Nat.div_eq_of_lt (by omega)]
  omega
theorem cutz_lead (c D V E h : Nat) (rs : Bool) (j m k F : Nat) (hc : 0 < c) (hce : c % 2 = 0) (hE : 0 < E) (hh : h = V / E) (hrs : rs = decide (V % E ≠ 0)) (hk : k = h / 2 ^ (m + 1)) (hF : F = j * c + k) (hb : k < 2 * c) (hjk : j = 0 ∨ c ≤ k) (hQD : E * 2 ^ (m + 1) = 2 ^ j * D) : Cutz c D V k (E * 2 ^ (m + 1)) (E * 2 ^ m) F (decide (k % 2 = 1)) (decide (h / 2 ^ m % 2 = 1)) (rs || h % 2 ^ m != 0):=by
 have hp:=Nat.two_pow_pos m
 have hH : 0 < E * 2 ^ m:=Nat.mul_pos hE hp
 have hQ : E * 2 ^ (m + 1) = 2 * (E * 2 ^ m):=by rw [Nat.pow_succ,← Nat.mul_assoc,Nat.mul_comm]
 have hkq : V / (E * 2 ^ (m + 1)) = k:=by rw [hk,hh,Nat.div_div_eq_div_mul]
 refine ⟨hQ,hH,hkq,?_,?_,rfl,?_,?_,?_⟩
 ·rw [hF,rv_at c j k hc (by omega) hjk,hQD,Nat.mul_assoc]
 ·rw [hF,Nat.add_assoc,rv_at c j (k + 1) hc (by omega) (by omega),hQD,Nat.mul_assoc]
 ·rw [hF,Nat.add_mod,Nat.mul_mod,hce]; simp
 ·rw [hh,Nat.div_div_eq_div_mul,hQ]
  congr 1
  exact propext (half_iff V (E * 2 ^ m) hH)
 ·rw [hQ,Nat.mod_mul_left_mod,Nat.mod_mul,← hh,hrs]
  by_cases h1 : V % E = 0
  ·by_cases h2 : h % 2 ^ m = 0
   ·simp [h1,h2]
   ·have : ¬ E * (h % 2 ^ m) = 0:=by
     intro h0; rcases Nat.mul_eq_zero.1 h0 with h0 | h0 <;> omega
    rw [show (h % 2 ^ m != 0) = true by simpa using h2,h1,Nat.zero_add,decide_eq_true this]
    simp
  ·rw [decide_eq_true h1,Bool.true_or]
   exact (decide_eq_true (by omega)).symm
theorem quot_val (a b : Nm) (ha : vld a = true) (hb : vld b = true) (h1 : a.mag ≠ []) (h2 : b.mag ≠ []) (s : Int) (hx : 2 * s ≤ a.exp) (hu : 2 * s ≤ a.exp + (bl (nv a.mag) : Int) - 30 * ((b.mag.length : Int) + 2)) : qA a b / qU b = (nv a.mag * 2 ^ (a.exp - 2 * s).toNat) / (nv b.mag * 2 ^ (qex a b + b.exp - 2 * s).toNat) ∧ qrs a b = decide ((nv a.mag * 2 ^ (a.exp - 2 * s).toNat) % (nv b.mag * 2 ^ (qex a b + b.exp - 2 * s).toNat) ≠ 0):=by
 obtain ⟨p1,p2,p3,p4,p5,p6⟩:=vld_some a.neg a.mag a.exp h1 ha
 obtain ⟨q1,q2,q3,q4,q5,q6⟩:=vld_some b.neg b.mag b.exp h2 hb
 have hodd:=nv_odd a.mag p2 p4
 have hb2:=bl_le _ _ (nv_lt b.mag q2)
 obtain ⟨t,ht⟩ : ∃ t,30 * ((b.mag.length : Int) + 2) - (bl (nv a.mag) : Int) = t:=⟨_,rfl⟩
 have hA : qA a b = (nv a.mag * 2 ^ (a.exp - 2 * s).toNat) / 2 ^ (a.exp - t - 2 * s).toNat:=by
  have:=flo_at (nv a.mag) a.exp (a.exp - t) (2 * s) hx (by omega)
  rw [show a.exp - (a.exp - t) = t by omega] at this
  unfold qA
  rw [ht]
  exact this
 have hR : rst (nv a.mag) t = ((nv a.mag * 2 ^ (a.exp - 2 * s).toNat) % 2 ^ (a.exp - t - 2 * s).toNat != 0):=by
  have:=rst_at (nv a.mag) a.exp (a.exp - t) (2 * s) hx (by omega)
  rw [show a.exp - (a.exp - t) = t by omega] at this
  exact this
 have hU : qU b = nv b.mag * 2 ^ (30 * (b.mag.length : Int) - (bl (nv b.mag) : Int)).toNat:=by
  unfold qU flo
  rw [if_pos (by omega)]
 have hE : 2 ^ (a.exp - t - 2 * s).toNat * qU b = nv b.mag * 2 ^ (qex a b + b.exp - 2 * s).toNat:=by
  rw [hU,Nat.mul_left_comm,← Nat.pow_add]
  congr 2
  unfold qex
  omega
 have hlw : decide (0 < qlw a b) = rst (nv a.mag) t:=by
  unfold rst qlw
  by_cases h0 : 0 ≤ t
  ·rw [if_pos h0,decide_eq_false (by omega)]
  ·rw [if_neg h0,decide_eq_true (by omega)]
   obtain ⟨j,hj⟩ : ∃ j : Nat,(-t).toNat = j + 1:=⟨(-t).toNat - 1,by omega⟩
   rw [hj]
   have h3 : nv a.mag % 2 ^ (j + 1) % 2 = 1:=by
    rw [Nat.mod_mod_of_dvd _ (by rw [Nat.pow_succ]; exact Nat.dvd_mul_left _ _)]
    exact hodd
   have h4 : nv a.mag % 2 ^ (j + 1) ≠ 0:=by
    intro h0; rw [h0] at h3; simp at h3
   exact (by simpa using h4)
 have hP:=Nat.two_pow_pos (a.exp - t - 2 * s).toNat
 unfold qrs
 rw [hlw,hR,← hE,hA]
 generalize nv a.mag * 2 ^ (a.exp - 2 * s).toNat = V
 generalize 2 ^ (a.exp - t - 2 * s).toNat = P at hP ⊢
 generalize qU b = U
 refine ⟨Nat.div_div_eq_div_mul _ _ _,?_⟩
 rw [Nat.mod_mul]
 by_cases g1 : V % P = 0
 ·by_cases g2 : V / P % U = 0
  ·simp [g1,g2]
  ·have : ¬ P * (V / P % U) = 0:=by
    intro h0; rcases Nat.mul_eq_zero.1 h0 with h0 | h0 <;> omega
   rw [g1,Nat.zero_add,decide_eq_true g2,decide_eq_true this]
   simp
 ·rw [show (V % P != 0) = true by simpa using g1,Bool.true_or]
  exact (decide_eq_true (by omega)).symm
end Go.Proofs.YtnniljhdcplkgaaGreatDoor
namespace Go.Proofs.YtnniljhdcplkgaaGreatDoor
open Go.ChangeShapes Go.WideShapes Go.ChangeAt Go.RowKit
set_option maxHeartbeats 16000000
set_option maxRecDepth 100000
set_option linter.unusedVariables false
set_option linter.unusedSimpArgs false
theorem quotient_nil (n1 : Bool) (a1 : Option Addr) (c1 : Nat) (x1 : Int) (n2 : Bool) (a2 : Option Addr) (l2 c2 : Nat) (x2 : Int) (w : World) : Calls Tryz.prog 101 #[.agg #[.bool n1,.slice a1 0 c1,.int .i64 x1],.agg #[.bool n2,.slice a2 l2 c2,.int .i64 x2]] w fun e w' => e = .returned (.agg #[.bool false,.int .i64 0,.int .i64 0,.bool false]) ∧ Kept w w':=by
 have hK : Kept w (((w.alloc (.cells #[.bool n1,.slice a1 0 c1,.int .i64 x1] 43)).alloc (.cells #[.bool n2,.slice a2 l2 c2,.int .i64 x2] 43)).alloc (.cells #[.bool false,.int .i64 0,.int .i64 0,.bool false] 117)):=(((Kept.refl w).alloc _ _).alloc _ _).alloc _ _
 go_enter Tryz.func101,Tryz.ntmps101
 go_wp2
 refine bodyPost_ret (v:=.agg #[.bool false,.int .i64 0,.int .i64 0,.bool false]) (by simp [results,Tryz.results101,go_sem]) rfl ⟨rfl,?_⟩
 exact hK
end Go.Proofs.YtnniljhdcplkgaaGreatDoor
