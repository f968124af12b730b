/- Of the document's numbers: Whole,Finite,Exact. The walks of cmp.Compare of ints,of exact's below and take of one digit. The walks of exact's Mul where the product is too long,and of Cmp of numbers with two signs. -/
import Derived.Test.YtdhimkpfnhoagaaGreatDoorWo09
import Derived.Test.YtdhimkpfnhoagaaGreatDoorWo12
import Derived.Test.YtdhimkpfnhoagaaGreatDoorWo13
import Derived.Test.YtdhimkpfnhoagaaGreatDoorWo17
import Derived.Test.YtdhimkpfnhoagaaGreatDoorWo08
import Derived.BigRegion
import Derived.Test.YtdhimkpfnhoagaaGreatDoorWo11
namespace Go.Proofs.YtdhimkpfnhoagaaGreatDoor
open Go.ChangeShapes Go.WideShapes Go.ChangeAt Go.RowKit
set_option linter.unusedVariables false
set_option linter.unusedSimpArgs false
set_option maxHeartbeats 16000000
set_option maxRecDepth 100000
theorem whole_pos (w : World) (v : Nat) (hv : v ≤ 9223372036854775807) : Calls Tryz.prog 139 #[.int .i64 (v : Int)] w fun e w' => (∃ r,e = .returned r ∧ RNp (Fresh w.heap.size) w' r (nrm false v 0)) ∧ Kept w w':=by
 have hK : Kept w (numW w):=(Kept.refl w).alloc _ _
 have hl : (digs v).length ≤ 3:=digs_length_le v 3 (by omega)
 have KF : Hid (Calls Tryz.prog 148 #[.int .i64 (v : Int)] (numW w) fun e w' => (∃ r,e = .returned r ∧ RLp (Fresh (numW w).heap.size) w' r (digs v)) ∧ Kept (numW w) w'):=natFrom_any (numW w) v hv
 have KN : Hid (∀ u va,Kept (numW w) u → RLp (Fresh (numW w).heap.size) u va (digs v) → Calls Tryz.prog 147 #[.bool false,va,.int .i64 0] u fun e w' => (∃ r,e = .returned r ∧ RNp (Fresh (numW w).heap.size) w' r (nrm false v 0)) ∧ Kept u w'):=fun u va k h => by
  have:=norm_any u false (digs v) va h.rl (dg_digs v) (by omega) 0
  rw [nv_digs] at this
  refine this.mono ?_
  rintro e w' ⟨⟨r,rfl,hr⟩,kk⟩
  exact ⟨⟨r,rfl,hr.imp (fun b hb => Nat.le_trans k.below.size hb)⟩,kk⟩
 have hv0 : ¬ (v : Int) < 0:=by omega
 go_enter Tryz.func139,Tryz.ntmps139
 go_wp2_with (first | (go_at_call 148; refine KF.out.mono ?_; rintro e w1 ⟨⟨va,rfl,hva⟩,k1⟩) | (go_at_call 147; refine (KN.out _ _ k1 hva).mono ?_; rintro e w2 ⟨⟨r,rfl,hN⟩,k2⟩; obtain ⟨vn,ao,vl,vc,vx,rfl⟩:=hN.shape5; obtain ⟨f0,f1,f2,f3⟩:=num_cells (k1.trans k2)))
 have hd:=(hN.done w.heap.size (fun b hb => by simp [Fresh] at hb; omega) (.bool vn) (.slice ao vl vc) (.int .i64 vx)).imp (Q:=Fresh w.heap.size) (fun b hb => by simp [Fresh] at hb ⊢; omega)
 have hkk:=(hK.trans (k1.trans k2)).setCell (p:=⟨w.heap.size,0,none⟩) (Nat.le_refl _) (.bool vn) |>.setCell (p:=⟨w.heap.size,1,none⟩) (Nat.le_refl _) (.slice ao vl vc) |>.setCell (p:=⟨w.heap.size,2,none⟩) (Nat.le_refl _) (.int .i64 vx)
 refine bodyPost_ret (v:=.agg #[.bool vn,.slice ao vl vc,.int .i64 vx]) (by simp [results,Tryz.results139,go_sem,f0,f1,f2]) rfl ⟨⟨_,rfl,hd⟩,hkk⟩
theorem rfinite_any (b n : Int) (hb1 : -9223372036854775808 ≤ b) (hb2 : b ≤ 9223372036854775807) (w : World) : Calls Tryz.prog 37 #[.int .i64 b,.int .i64 n] w fun e w' => e = .returned (.bool (decide (cls b n < 3))) ∧ Kept w w':=by
 have KC : Hid (Calls Tryz.prog 92 #[.int .i64 b,.int .i64 n] w fun e w' => e = .returned (.int .i64 (cls b n)) ∧ Kept w w'):=rclass_any b n hb1 hb2 w
 generalize cls b n = cc at *
 go_enter Tryz.func37,Tryz.ntmps37
 go_wp2_with (first | (go_at_call 92; refine KC.out.mono ?_; rintro e w1 ⟨rfl,k1⟩))
 go_ret
 exact ⟨rfl,k1⟩
theorem rexact_any (b n : Int) (hb1 : -9223372036854775808 ≤ b) (hb2 : b ≤ 9223372036854775807) (hn : n = 64 ∨ n = 32) (hc : cls b n < 3) (w : World) : Calls Tryz.prog 97 #[.int .i64 b,.int .i64 n] w fun e w' => (∃ v,e = .returned v ∧ RNp (Fresh w.heap.size) w' v (nrm (pneg b n) (pmag b n).toNat (pexp b n))) ∧ Kept w w':=by
 have hK : Kept w (numW w):=(Kept.refl w).alloc _ _
 have hf:=fl_any b n hn hc
 have KP : Hid (∀ u,Calls Tryz.prog 146 #[.int .i64 b,.int .i64 n] u fun e w' => e = .returned (.tuple #[.bool (pneg b n),.int .i64 (pmag b n),.int .i64 (pexp b n),.bool true]) ∧ Kept u w'):=fun u => by
  have:=rparts_any b n hb1 hb2 u
  rw [fin_of b n hn hc] at this
  exact this
 have hm53 : pmag b n < 9223372036854775807:=by
  have h1:=hf.2.1
  have h2 : (2 : Int) ^ (kprec n).toNat ≤ 9007199254740992:=by rcases hn with rfl | rfl <;> decide
  omega
 obtain ⟨v,hv⟩ : ∃ v : Nat,pmag b n = (v : Int):=⟨(pmag b n).toNat,by have:=hf.1; omega⟩
 have hv2 : (pmag b n).toNat = v:=by omega
 have hv9 : v ≤ 9223372036854775807:=by omega
 rw [hv] at KP
 rw [hv2]
 have KF : Hid (∀ u,Kept (numW w) u → Calls Tryz.prog 148 #[.int .i64 (v : Int)] u fun e w' => (∃ r,e = .returned r ∧ RLp (Fresh (numW w).heap.size) w' r (digs v)) ∧ Kept u w'):=fun u k => (natFrom_any u v hv9).mono (by
  rintro e w' ⟨⟨r,rfl,hr⟩,kk⟩
  exact ⟨⟨r,rfl,hr.imp (fun b hb => Nat.le_trans k.below.size hb)⟩,kk⟩)
 have hl : (digs v).length ≤ 3:=digs_length_le v 3 (by omega)
 have KN : Hid (∀ u va,Kept (numW w) u → RLp (Fresh (numW w).heap.size) u va (digs v) → Calls Tryz.prog 147 #[.bool (pneg b n),va,.int .i64 (pexp b n)] u fun e w' => (∃ r,e = .returned r ∧ RNp (Fresh (numW w).heap.size) w' r (nrm (pneg b n) v (pexp b n))) ∧ Kept u w'):=fun u va k h => by
  have:=norm_any u (pneg b n) (digs v) va h.rl (dg_digs v) (by omega) (pexp b n)
  rw [nv_digs] at this
  refine this.mono ?_
  rintro e w' ⟨⟨r,rfl,hr⟩,kk⟩
  exact ⟨⟨r,rfl,hr.imp (fun b hb => Nat.le_trans k.below.size hb)⟩,kk⟩
 clear hf hm53 hv hv2 hl
 generalize nrm (pneg b n) v (pexp b n) = NR at *
 generalize pneg b n = pn at *
 generalize pexp b n = px at *
 go_enter Tryz.func97,Tryz.ntmps97
 go_wp2_with (first | (go_at_call 146; refine (KP.out _).mono ?_; rintro e w1 ⟨rfl,k1⟩) | (go_at_call 148; refine (KF.out _ k1).mono ?_; rintro e w2 ⟨⟨va,rfl,hva⟩,k2⟩) | (go_at_call 147; refine (KN.out _ _ (k1.trans k2) hva).mono ?_; rintro e w3 ⟨⟨r,rfl,hN⟩,k3⟩; obtain ⟨vn,ao,vl,vc,vx,rfl⟩:=hN.shape5; obtain ⟨f0,f1,f2,f3⟩:=num_cells (k1.trans (k2.trans k3))))
 have hd:=(hN.done w.heap.size (fun b hb => by simp [Fresh] at hb; omega) (.bool vn) (.slice ao vl vc) (.int .i64 vx)).imp (Q:=Fresh w.heap.size) (fun b hb => by simp [Fresh] at hb ⊢; omega)
 have hkk:=(hK.trans (k1.trans (k2.trans k3))).setCell (p:=⟨w.heap.size,0,none⟩) (Nat.le_refl _) (.bool vn) |>.setCell (p:=⟨w.heap.size,1,none⟩) (Nat.le_refl _) (.slice ao vl vc) |>.setCell (p:=⟨w.heap.size,2,none⟩) (Nat.le_refl _) (.int .i64 vx)
 refine bodyPost_ret (v:=.agg #[.bool vn,.slice ao vl vc,.int .i64 vx]) (by simp [results,Tryz.results97,go_sem,f0,f1,f2]) rfl ⟨⟨_,rfl,hd⟩,hkk⟩
theorem rexact2_any (b n : Int) (hb1 : -9223372036854775808 ≤ b) (hb2 : b ≤ 9223372036854775807) (hn : n = 64 ∨ n = 32) (hc : cls b n < 3) (w : World) : Calls Tryz.prog 44 #[.int .i64 b,.int .i64 n] w fun e w' => (∃ v,e = .returned v ∧ RNp (Fresh w.heap.size) w' v (nrm (pneg b n) (pmag b n).toNat (pexp b n))) ∧ Kept w w':=by
 have hK : Kept w (numW w):=(Kept.refl w).alloc _ _
 have KE : Hid (Calls Tryz.prog 97 #[.int .i64 b,.int .i64 n] (numW w) fun e w' => (∃ v,e = .returned v ∧ RNp (Fresh (numW w).heap.size) w' v (nrm (pneg b n) (pmag b n).toNat (pexp b n))) ∧ Kept (numW w) w'):=rexact_any b n hb1 hb2 hn hc (numW w)
 generalize nrm (pneg b n) (pmag b n).toNat (pexp b n) = NR at *
 go_enter Tryz.func44,Tryz.ntmps44
 go_wp2_with (first | (go_at_call 97; refine KE.out.mono ?_; rintro e w3 ⟨⟨r,rfl,hN⟩,k3⟩; obtain ⟨vn,ao,vl,vc,vx,rfl⟩:=hN.shape5; obtain ⟨f0,f1,f2,f3⟩:=num_cells k3))
 have hd:=(hN.done w.heap.size (fun b hb => by simp [Fresh] at hb; omega) (.bool vn) (.slice ao vl vc) (.int .i64 vx)).imp (Q:=Fresh w.heap.size) (fun b hb => by simp [Fresh] at hb ⊢; omega)
 have hkk:=(hK.trans k3).setCell (p:=⟨w.heap.size,0,none⟩) (Nat.le_refl _) (.bool vn) |>.setCell (p:=⟨w.heap.size,1,none⟩) (Nat.le_refl _) (.slice ao vl vc) |>.setCell (p:=⟨w.heap.size,2,none⟩) (Nat.le_refl _) (.int .i64 vx)
 refine bodyPost_ret (v:=.agg #[.bool vn,.slice ao vl vc,.int .i64 vx]) (by simp [results,Tryz.results44,go_sem,f0,f1,f2]) rfl ⟨⟨_,rfl,hd⟩,hkk⟩
/-! ### Make: what both tell -/
theorem ofN_nrm (b n : Int) (hn : n = 64 ∨ n = 32) (hc : cls b n < 3) : vld (nrm (pneg b n) (pmag b n).toNat (pexp b n)) = true ∧ ofN b n = nrm (pneg b n) (pmag b n).toNat (pexp b n):=by
 have h1:=of_frm b n hn hc
 rw [frm_nrm] at h1
 by_cases h : vld (nrm (pneg b n) (pmag b n).toNat (pexp b n)) = true
 ·rw [if_pos h] at h1
  exact ⟨h,(Option.some.inj h1).symm⟩
 ·rw [if_neg h] at h1
  cases h1
set_option linter.unnecessarySimpa false
theorem product_far (n1 n2 : Bool) (a1 a2 : Option Addr) (l1 c1 l2 c2 : Nat) (x1 x2 : Int) (b1 b2 : Nat) (hx1 : -1048576 ≤ x1 ∧ x1 ≤ 1048576) (hx2 : -1048576 ≤ x2 ∧ x2 ≤ 1048576) (hb1 : b1 ≤ 60000) (hb2 : b2 ≤ 60000) (hno : 60000 < (b1 : Int) + b2 - 1 ∨ x1 + x2 < -1048576 ∨ 1048576 < x1 + x2) (w : World)
  (K1 : Hid (∀ u,Kept w u → Calls Tryz.prog 114 #[.slice a1 l1 c1] u fun e w' => e = .returned (.int .i64 (b1 : Int)) ∧ u = w')) (K2 : Hid (∀ u,Kept w u → Calls Tryz.prog 114 #[.slice a2 l2 c2] u fun e w' => e = .returned (.int .i64 (b2 : Int)) ∧ u = w')) :
  Calls Tryz.prog 63 #[.agg #[.bool n1,.slice a1 l1 c1,.int .i64 x1],.agg #[.bool n2,.slice a2 l2 c2,.int .i64 x2]] w fun e w' => e = .panicked gaveUp ∧ Kept w w':=by
 have hK : Kept w (((w.alloc (.cells #[.bool n1,.slice a1 l1 c1,.int .i64 x1] 26)).alloc (.cells #[.bool n2,.slice a2 l2 c2,.int .i64 x2] 26)).alloc nilNum):=(((Kept.refl w).alloc _ _).alloc _ _).alloc _ _
 have z1 : IntKind.i64.wrap ((b1 : Int) + (b2 : Int)) = (b1 : Int) + (b2 : Int):=by rw [wrap_i64]; omega
 have z2 : IntKind.i64.wrap ((b1 : Int) + (b2 : Int) - 1) = (b1 : Int) + (b2 : Int) - 1:=by rw [wrap_i64]; omega
 have z3 : IntKind.i64.wrap (x1 + x2) = x1 + x2:=by rw [wrap_i64]; omega
 have hS : ∀ u,Kept (((w.alloc (.cells #[.bool n1,.slice a1 l1 c1,.int .i64 x1] 26)).alloc (.cells #[.bool n2,.slice a2 l2 c2,.int .i64 x2] 26)).alloc nilNum) u → (u.cell? ⟨w.heap.size,1,none⟩ = some (.slice a1 l1 c1) ∧ u.cell? ⟨w.heap.size,2,none⟩ = some (.int .i64 x1)) ∧ u.cell? ⟨w.heap.size + 1,1,none⟩ = some (.slice a2 l2 c2) ∧ u.cell? ⟨w.heap.size + 1,2,none⟩ = some (.int .i64 x2):=fun u k => ⟨⟨(k.below.cell (p:=⟨w.heap.size,1,none⟩) (by simp <;> omega)).trans (by simp [go_sem]),(k.below.cell (p:=⟨w.heap.size,2,none⟩) (by simp <;> omega)).trans (by simp [go_sem])⟩,(k.below.cell (p:=⟨w.heap.size + 1,1,none⟩) (by simp <;> omega)).trans (by simp [go_sem]),(k.below.cell (p:=⟨w.heap.size + 1,2,none⟩) (by simp <;> omega)).trans (by simp [go_sem])⟩
 have HS:=hS _ (Kept.refl _).drew
 have HSS : Hid (∀ u,Kept (((w.alloc (.cells #[.bool n1,.slice a1 l1 c1,.int .i64 x1] 26)).alloc (.cells #[.bool n2,.slice a2 l2 c2,.int .i64 x2] 26)).alloc nilNum) u → (u.cell? ⟨w.heap.size,1,none⟩ = some (.slice a1 l1 c1) ∧ u.cell? ⟨w.heap.size,2,none⟩ = some (.int .i64 x1)) ∧ u.cell? ⟨w.heap.size + 1,1,none⟩ = some (.slice a2 l2 c2) ∧ u.cell? ⟨w.heap.size + 1,2,none⟩ = some (.int .i64 x2)):=hS
 clear hS
 go_enter Tryz.func63,Tryz.ntmps63
 go_wp2_with fail
 refine wp_region_held_drew (S:=fun u => (u.cell? ⟨w.heap.size,1,none⟩ = some (.slice a1 l1 c1) ∧ u.cell? ⟨w.heap.size,2,none⟩ = some (.int .i64 x1)) ∧ u.cell? ⟨w.heap.size + 1,1,none⟩ = some (.slice a2 l2 c2) ∧ u.cell? ⟨w.heap.size + 1,2,none⟩ = some (.int .i64 x2)) (by kernel_rfl) HS (fun hHeld => ?_)
 refine tk (i:=0) (v:=?_) rfl ?_
 simp only [Act.put,zA,zB,zC,zD,zE,zF]
 refine tk (i:=1) (v:=?_) rfl ?_
 simp only [Act.put,zA,zB,zC,zD,zE,zF]
 refine tk (i:=3) (v:=?_) rfl ?_
 simp only [Act.put,zA,zB,zC,zD,zE,zF]
 refine tk (i:=4) (v:=?_) rfl ?_
 simp only [Act.put,zA,zB,zC,zD,zE,zF]
 refine tk (i:=8) (v:=?_) rfl ?_
 simp only [Act.put,zA,zB,zC,zD,zE,zF]
 refine tk (i:=9) (v:=?_) rfl ?_
 simp only [Act.put,zA,zB,zC,zD,zE,zF]
 refine tk (i:=10) (v:=?_) rfl ?_
 simp only [Act.put,zA,zB,zC,zD,zE,zF]
 refine tk (i:=11) (v:=?_) rfl ?_
 simp only [Act.put,zA,zB,zC,zD,zE,zF]
 refine tk (i:=12) (v:=?_) rfl ?_
 simp only [Act.put,zA,zB,zC,zD,zE,zF]
 refine wpAnyH_ready (rs:=[2]) (by kernel_rfl) (by simp) ?_
 refine AllReadyH.cons rfl (fun K hK9 => ?_) AllReadyH.nil
 go_simp
 go_wp2_with fail
 refine (K1.out _ hK.drew).mono ?_
 rintro e u1 ⟨rfl,rfl⟩
 refine hK9.out _ _ HS (fun hHeld2 => ?_)
 clear hK9 K
 refine wpAnyH_ready (rs:=[5]) (by kernel_rfl) (by simp) ?_
 refine AllReadyH.cons rfl (fun K hK9 => ?_) AllReadyH.nil
 go_simp
 go_wp2_with fail
 refine (K2.out _ hK.drew).mono ?_
 rintro e u1 ⟨rfl,rfl⟩
 refine hK9.out _ _ HS (fun hHeld3 => ?_)
 clear hK9 K
 refine tk (i:=6) (v:=?_) rfl ?_
 simp only [Act.put,zA,zB,zC,zD,zE,zF]
 refine tk (i:=7) (v:=?_) rfl ?_
 simp only [Act.put,zA,zB,zC,zD,zE,zF]
 refine wpAnyH_ready (rs:=[13]) (by kernel_rfl) (by simp) ?_
 refine AllReadyH.cons rfl (fun K hK9 => ?_) AllReadyH.nil
 go_simp
 go_wp2_with fail
 refine (fit_no _ _ hno _).mono ?_
 rintro e u1 ⟨rfl,rfl⟩
 exact ⟨rfl,rfl,hK.drew⟩
end Go.Proofs.YtdhimkpfnhoagaaGreatDoor
