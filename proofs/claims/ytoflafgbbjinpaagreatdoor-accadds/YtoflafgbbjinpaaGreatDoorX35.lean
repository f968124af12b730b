/- exact's Int below 0; the document's own Whole and Make,Finite and Exact; exact's Make and Int of whatever is handed in; the walk of the laws' own 'made'. Round and Mean of any sum: what the program answers,and that the document says so. The laws' own test of life: acc.Sum,Dot,Add,Mean of small floats. The laws' own lent,heavy,first of no patterns; the document's Valid. -/
import Derived.Test.YtoflafgbbjinpaaGreatDoorX19
import Derived.Test.YtoflafgbbjinpaaGreatDoorX21
import Derived.Test.YtoflafgbbjinpaaGreatDoorX30
import Derived.Test.YtoflafgbbjinpaaGreatDoorX33
import Derived.Test.YtoflafgbbjinpaaGreatDoorX34
import Derived.Test.YtoflafgbbjinpaaGreatDoorX27
namespace Go.Proofs.YtoflafgbbjinpaaGreatDoor
open Go.ChangeShapes Go.WideShapes Go.ChangeAt Go.RowKit
set_option linter.unusedVariables false
set_option linter.unusedSimpArgs false
set_option maxHeartbeats 16000000
set_option maxRecDepth 100000
theorem rexact_any (b n : Int) (hb1 : -9223372036854775808 ≤ b) (hb2 : b ≤ 9223372036854775807) (hn : n = 64 ∨ n = 32) (hc : cls b n < 3) (w : World) : Calls Tryz.prog 95 #[.int .i64 b,.int .i64 n] w fun e w' => (∃ v,e = .returned v ∧ RNp (Fresh w.heap.size) w' v (nrm (pneg b n) (pmag b n).toNat (pexp b n))) ∧ Kept w w':=by
 have hK : Kept w (numW w):=(Kept.refl w).alloc _ _
 have hf:=fl_any b n hn hc
 have KP : Hid (∀ u,Calls Tryz.prog 142 #[.int .i64 b,.int .i64 n] u fun e w' => e = .returned (.tuple #[.bool (pneg b n),.int .i64 (pmag b n),.int .i64 (pexp b n),.bool true]) ∧ Kept u w'):=fun u => by
  have:=rparts_any b n hb1 hb2 u
  rw [fin_of b n hn hc] at this
  exact this
 have hm53 : pmag b n < 9223372036854775807:=by
  have h1:=hf.2.1
  have h2 : (2 : Int) ^ (kprec n).toNat ≤ 9007199254740992:=by rcases hn with rfl | rfl <;> decide
  omega
 obtain ⟨v,hv⟩ : ∃ v : Nat,pmag b n = (v : Int):=⟨(pmag b n).toNat,by have:=hf.1; omega⟩
 have hv2 : (pmag b n).toNat = v:=by omega
 have hv9 : v ≤ 9223372036854775807:=by omega
 rw [hv] at KP
 rw [hv2]
 have KF : Hid (∀ u,Kept (numW w) u → Calls Tryz.prog 143 #[.int .i64 (v : Int)] u fun e w' => (∃ r,e = .returned r ∧ RLp (Fresh (numW w).heap.size) w' r (digs v)) ∧ Kept u w'):=fun u k => (natFrom_any u v hv9).mono (by
  rintro e w' ⟨⟨r,rfl,hr⟩,kk⟩
  exact ⟨⟨r,rfl,hr.imp (fun b hb => Nat.le_trans k.below.size hb)⟩,kk⟩)
 have hl : (digs v).length ≤ 3:=digs_length_le v 3 (by omega)
 have KN : Hid (∀ u va,Kept (numW w) u → RLp (Fresh (numW w).heap.size) u va (digs v) → Calls Tryz.prog 138 #[.bool (pneg b n),va,.int .i64 (pexp b n)] u fun e w' => (∃ r,e = .returned r ∧ RNp (Fresh (numW w).heap.size) w' r (nrm (pneg b n) v (pexp b n))) ∧ Kept u w'):=fun u va k h => by
  have:=norm_any u (pneg b n) (digs v) va h.rl (dg_digs v) (by omega) (pexp b n)
  rw [nv_digs] at this
  refine this.mono ?_
  rintro e w' ⟨⟨r,rfl,hr⟩,kk⟩
  exact ⟨⟨r,rfl,hr.imp (fun b hb => Nat.le_trans k.below.size hb)⟩,kk⟩
 clear hf hm53 hv hv2 hl
 generalize nrm (pneg b n) v (pexp b n) = NR at *
 generalize pneg b n = pn at *
 generalize pexp b n = px at *
 go_enter Tryz.func95,Tryz.ntmps95
 go_wp2_with (first | (go_at_call 142; refine (KP.out _).mono ?_; rintro e w1 ⟨rfl,k1⟩) | (go_at_call 143; refine (KF.out _ k1).mono ?_; rintro e w2 ⟨⟨va,rfl,hva⟩,k2⟩) | (go_at_call 138; refine (KN.out _ _ (k1.trans k2) hva).mono ?_; rintro e w3 ⟨⟨r,rfl,hN⟩,k3⟩; obtain ⟨vn,ao,vl,vc,vx,rfl⟩:=hN.shape5; obtain ⟨f0,f1,f2,f3⟩:=num_cells (k1.trans (k2.trans k3))))
 have hd:=(hN.done w.heap.size (fun b hb => by simp [Fresh] at hb; omega) (.bool vn) (.slice ao vl vc) (.int .i64 vx)).imp (Q:=Fresh w.heap.size) (fun b hb => by simp [Fresh] at hb ⊢; omega)
 have hkk:=(hK.trans (k1.trans (k2.trans k3))).setCell (p:=⟨w.heap.size,0,none⟩) (Nat.le_refl _) (.bool vn) |>.setCell (p:=⟨w.heap.size,1,none⟩) (Nat.le_refl _) (.slice ao vl vc) |>.setCell (p:=⟨w.heap.size,2,none⟩) (Nat.le_refl _) (.int .i64 vx)
 refine bodyPost_ret (v:=.agg #[.bool vn,.slice ao vl vc,.int .i64 vx]) (by simp [results,Tryz.results95,go_sem,f0,f1,f2]) rfl ⟨⟨_,rfl,hd⟩,hkk⟩
/-! ### Make: what both tell -/
theorem ofN_nrm (b n : Int) (hn : n = 64 ∨ n = 32) (hc : cls b n < 3) : vld (nrm (pneg b n) (pmag b n).toNat (pexp b n)) = true ∧ ofN b n = nrm (pneg b n) (pmag b n).toNat (pexp b n):=by
 have h1:=of_frm b n hn hc
 rw [frm_nrm] at h1
 by_cases h : vld (nrm (pneg b n) (pmag b n).toNat (pexp b n)) = true
 ·rw [if_pos h] at h1
  exact ⟨h,(Option.some.inj h1).symm⟩
 ·rw [if_neg h] at h1
  cases h1
theorem sl_none (w : World) : Sl w (.slice none 0 0) []:=⟨none,0,rfl,Nat.le_refl _,by simp [maxLen],fun h => absurd rfl h⟩
theorem lookA (n : Int) (a : Nm) (ra : Rg a.mag) (la : a.mag.length < 60000000) (p m z : Bool) (ao : Option Addr) (c : Nat) (u : World) (h : Sl u (.slice ao a.mag.length c) a.mag) (f : Int) (hf : f = FE n 0 (vld a)) : Calls Tryz.prog 67 #[.int .i64 n,accV a.neg (.slice ao a.mag.length c) a.exp p m z,.slice none 0 0] u fun e w' => e = .returned (.int .i64 f) ∧ Kept u w':=by
 have:=look_any n a.neg a.mag a.exp ra (by omega) ao c p m z [] (by simp) u h (.slice none 0 0) (sl_none u)
 rw [lk_fe] at this
 rw [hf]
 exact this
theorem frm_one (x : Int) (h1 : -10 ≤ x) (h2 : x ≤ 10) : frm false 1 x = some ⟨false,[1],x⟩:=by
 have t : tzn 1 = 0:=tzn_odd _ (by decide)
 have b : bl 1 = 1:=by decide
 have d : digs (1 / 2 ^ 0) = [1]:=digs_small 1 (by decide) (by decide)
 have w : wrap64 (x + ((0 : Nat) : Int)) = x:=by unfold wrap64; omega
 unfold frm
 rw [t,b,d,w,if_neg (by decide),if_pos ⟨by decide,by omega,by omega⟩]
theorem cfm_pow (k : Nat) (h1 : 2138 ≤ k) (h2 : k ≤ 2158) : cfm (2 ^ k) (-2148) = some ⟨false,[1],(k : Int) - 2148⟩:=by
 have hp : 0 < (2 : Int) ^ k:=Int.pow_pos (by decide)
 have e : ((2 : Int) ^ k).natAbs = 1 * 2 ^ k:=by rw [Int.natAbs_pow,Nat.one_mul]; rfl
 unfold cfm
 rw [decide_eq_false (by omega),e,frm_shift false 1 k (-2148) (by decide),show (-2148 : Int) + (k : Int) = (k : Int) - 2148 by omega]
 exact frm_one _ (by omega) (by omega)
theorem vldz : vld ⟨false,[],0⟩ = true:=by decide
theorem vld1x : vld ⟨false,[1],1⟩ = true:=by decide +kernel
theorem vld10 : vld ⟨false,[1],0⟩ = true:=by decide +kernel
theorem lk0 (n : Int) (hn : n = 64 ∨ n = 32) (L : List Int) (hL : L.all (val · n) = true) : lkE n (vld ⟨false,[],0⟩) L = 0:=by
 unfold lkE
 rw [vldz,if_neg (by simp [val,hn] <;> omega),if_neg (by simp),if_pos hL]
theorem look_list (n : Int) (hn : n = 64 ∨ n = 32) (L : List Int) (hl : L.length < 100000000) (hL : L.all (val · n) = true) (pats : Value) (u : World) (hp : Sl u pats L) : Calls Tryz.prog 67 #[.int .i64 n,accZ,pats] u fun e w' => e = .returned (.int .i64 0) ∧ Kept u w':=by
 have:=look_any n false [] 0 (by intro d hd; cases hd) (by decide) none 0 false false false L hl u (sl_none u) pats hp
 rw [lk0 n hn L hL] at this
 exact this
theorem sl_two {u : World} {q : Nat} {x y : Int} (hq : q < u.heap.size) (h0 : u.cell? ⟨q,0,none⟩ = some (.int .i64 x)) (h1 : u.cell? ⟨q,1,none⟩ = some (.int .i64 y)) : Sl u (.slice (some ⟨q,0,none⟩) 2 2) [x,y]:=by
 refine ⟨some ⟨q,0,none⟩,2,rfl,Nat.le_refl _,by simp [maxLen],fun _ => ⟨q,0,rfl,hq,fun i hi => ?_⟩⟩
 rcases i with _ | _ | i
 ·exact h0
 ·exact h1
 ·simp at hi; omega
theorem round_two (n bv : Int) (hn : n = 64 ∨ n = 32) (hbv : rzN n 0 ⟨false,[1],1⟩ = bv) (u : World) (hT : Tab u) (vn : Bool) (va : Option Addr) (vl vc : Nat) (vx : Int) (e1 : vn = false) (e2 : vl = 1) (e3 : vx = 1) (hs : Sl u (.slice va vl vc) [1]) : Calls Tryz.prog 20 #[accV vn (.slice va vl vc) vx false false false,.int .i64 n] u fun e w' => e = .returned (.tuple #[.int .i64 bv,.int .i64 0]) ∧ Kept u w':=by
 subst e1 e2 e3
 exact accRound_ok n false va 1 vc 1 false false false u (nfE (ivn n) (nvn n) (gvn n) false false false).1 false bv 0 (oxN n 0 ⟨false,[1],1⟩) (fun v k => lookA n ⟨false,[1],1⟩ (by intro d hd; simp at hd; subst hd; decide) (by decide) false false false va vc v (hs.kept k) 0 (by rw [vld1x]; unfold FE; rw [if_pos hn]; rfl)) (fun v k => notFin n hn false va 1 vc 1 false false false v) (fun v k => by
  have:=roundz n 0 hn (.inl rfl) ⟨false,[1],1⟩ vld1x va vc v (hT.kept k) (hs.kept k)
  rw [hbv] at this
  exact this)
theorem getD_two (x : Int) (i : Nat) (hi : i < 2) : [x,x].getD i 0 = x:=by
 rcases i with _ | _ | i
 ·rfl
 ·rfl
 ·omega
theorem sum_two (n one bv : Int) (hn : n = 64 ∨ n = 32) (r1 : -9223372036854775808 ≤ one) (r2 : one ≤ 9223372036854775807) (hc : cls one n < 3) (hval : val one n = true) (V : Int) (hp : pval n one one = V) (hV : cfm (2 * V) (-2148) = some ⟨false,[1],1⟩) (hbv : rzN n 0 ⟨false,[1],1⟩ = bv) (KF : ∀ u,Calls Tryz.prog 32 #[.int .i64 1,.int .i64 n] u fun e w' => e = .returned (.int .i64 one) ∧ Kept u w') (q : Nat) (w : World) (hT : Tab w) (h : Sl w (.slice (some ⟨q,0,none⟩) 2 2) [one,one]) :
  Calls Tryz.prog 35 #[.slice (some ⟨q,0,none⟩) 2 2,.int .i64 n] w fun e w' => e = .returned (.tuple #[.int .i64 bv,.int .i64 0]) ∧ Kept w w':=by
 have hF:=finP_of one n r1 r2 hn hc
 have hL : [one,one].all (val · n) = true:=by simp [hval]
 refine asum_ok n (some ⟨q,0,none⟩) 2 2 w ⟨false,[1],1⟩ false false false bv 0 ?_ (fun u vn va vl vc vx k e1 e2 e3 _ hs => round_two n bv hn hbv u (hT.kept k) vn va vl vc vx e1 e2 e3 hs)
 refine total_ok n [one,one] (by simp) (some ⟨q,0,none⟩) 2 w h one (fun i => PhiA ((i : Int) * V) false false false i) ⟨false,[1],1⟩ false false false (by have:=phi_start; simpa using this) (fun p u k hq hcl => ?_) KF (fun b i u fl C lo hi hi2 hM hΦ => ?_) (fun b u fl C lo hi k hM hΦ => ?_)
 ·exact lists_1 n (some ⟨q,0,none⟩) 2 2 p u hq hcl 0 0 (fun v k2 => look_list n hn [] (by decide) rfl _ v (sl_none v)) (fun v k2 => look_list n hn [one,one] (by simp) hL _ v (h.kept (k.trans k2)))
 ·have hi3 : i < 2:=hi2
  have:=phi_fin n one one hF hF hc hc ((i : Int) * V) false false false i (by omega) b u fl C lo hi hM hΦ
  rw [hp] at this
  rw [getD_two one i hi3,Int.natCast_add,Int.add_mul]
  rw [show ((1 : Nat) : Int) * V = V by rw [show ((1 : Nat) : Int) = 1 from rfl,Int.one_mul]]
  exact this
 ·refine phi_told n _ false false false 2 (by decide) b u (hT.kept k) fl C lo hi hM hΦ _ ?_
  exact hV
theorem dot_two (n one bv : Int) (hn : n = 64 ∨ n = 32) (r1 : -9223372036854775808 ≤ one) (r2 : one ≤ 9223372036854775807) (hc : cls one n < 3) (hval : val one n = true) (V : Int) (hp : pval n one one = V) (hV : cfm (2 * V) (-2148) = some ⟨false,[1],1⟩) (hbv : rzN n 0 ⟨false,[1],1⟩ = bv) (q q' : Nat) (w : World) (hT : Tab w) (h : Sl w (.slice (some ⟨q,0,none⟩) 2 2) [one,one]) (h' : Sl w (.slice (some ⟨q',0,none⟩) 2 2) [one,one]) :
  Calls Tryz.prog 36 #[.slice (some ⟨q,0,none⟩) 2 2,.slice (some ⟨q',0,none⟩) 2 2,.int .i64 n] w fun e w' => e = .returned (.tuple #[.int .i64 bv,.int .i64 0]) ∧ Kept w w':=by
 have hF:=finP_of one n r1 r2 hn hc
 have hL : [one,one].all (val · n) = true:=by simp [hval]
 refine adot_ok n (some ⟨q,0,none⟩) (some ⟨q',0,none⟩) 2 2 2 2 w ⟨false,[1],1⟩ false false false bv 0 ?_ (fun u vn va vl vc vx k e1 e2 e3 _ hs => round_two n bv hn hbv u (hT.kept k) vn va vl vc vx e1 e2 e3 hs)
 refine products_ok n [one,one] [one,one] rfl (by simp) (some ⟨q,0,none⟩) (some ⟨q',0,none⟩) 2 2 w h h' (fun i => PhiA ((i : Int) * V) false false false i) ⟨false,[1],1⟩ false false false (by have:=phi_start; simpa using this) (fun p u k hq hcl hcm => ?_) (fun b i u fl C lo hi hi2 hM hΦ => ?_) (fun b u fl C lo hi k hM hΦ => ?_)
 ·exact lists_2 n (some ⟨q,0,none⟩) (some ⟨q',0,none⟩) 2 2 2 2 p u hq hcl hcm 0 0 0 (fun v k2 => look_list n hn [] (by decide) rfl _ v (sl_none v)) (fun v k2 => look_list n hn [one,one] (by simp) hL _ v (h.kept (k.trans k2))) (fun v k2 => look_list n hn [one,one] (by simp) hL _ v (h'.kept (k.trans k2)))
 ·have hi3 : i < 2:=hi2
  have:=phi_fin n one one hF hF hc hc ((i : Int) * V) false false false i (by omega) b u fl C lo hi hM hΦ
  rw [hp] at this
  rw [getD_two one i hi3,Int.natCast_add,Int.add_mul]
  rw [show ((1 : Nat) : Int) * V = V by rw [show ((1 : Nat) : Int) = 1 from rfl,Int.one_mul]]
  exact this
 ·refine phi_told n _ false false false 2 (by decide) b u (hT.kept k) fl C lo hi hM hΦ _ ?_
  exact hV
theorem add_zero_one (n one : Int) (hn : n = 64 ∨ n = 32) (r1 : -9223372036854775808 ≤ one) (r2 : one ≤ 9223372036854775807) (hc : cls one n < 3) (hval : val one n = true) (V : Int) (hp : pval n one one = V) (hV : cfm V (-2148) = some ⟨false,[1],0⟩) (KF : ∀ u,Calls Tryz.prog 32 #[.int .i64 1,.int .i64 n] u fun e w' => e = .returned (.int .i64 one) ∧ Kept u w') (w : World) (hT : Tab w) :
  Calls Tryz.prog 28 #[accZ,.int .i64 one,.int .i64 n] w fun e w' => ∃ un ua ul uc ux,e = .returned (.tuple #[accV un (.slice ua ul uc) ux false false false,.int .i64 0]) ∧ New w w' (.agg #[.bool un,.slice ua ul uc,.int .i64 ux]) ⟨false,[1],0⟩ ∧ Kept w w':=by
 have hF:=finP_of one n r1 r2 hn hc
 have hL : [one,one].all (val · n) = true:=by simp [hval]
 refine addOne_ok n one one false none 0 0 0 false false false w ⟨false,[1],0⟩ false false false 0 KF (fun u k => ?_)
 refine addProduct_ok n one one false none 0 0 0 false false false u (PhiA V false false false 1) ⟨false,[1],0⟩ ⟨false,[1],0⟩ false false false false false false 0 (fun q v k2 hq h0 h1 => look_list n hn [one,one] (by simp) hL _ v (sl_two hq h0 h1)) (fun b v hM => ?_) (fun b v fl C lo hi k2 hM hΦ => phi_told n _ false false false 1 (by decide) b v (hT.kept (k.trans k2)) fl C lo hi hM hΦ _ hV) (fun v vn va vl vc vx k2 e1 e2 e3 e4 hs => ?_)
 ·have:=phi_fin n one one hF hF hc hc 0 false false false 0 (by decide) b v acc0 C0 141 0 hM phi_start
  rw [hp,Int.zero_add] at this
  exact this
 ·subst e1 e2 e3
  exact merge_ok false none 0 0 0 false false false false va 1 vc 0 false false false v ⟨false,[1],0⟩ (fun t k3 => addz_ok t (hT.kept ((k.trans k2).trans k3)) false [] 0 vldz none 0 false [1] 0 vld10 va vc (sl_none t) (hs.kept k3) ⟨false,[1],0⟩ rfl)
theorem half_cut : Cutz (cbn 64) (2 ^ (kleast 64 - (-1075)).toNat * (1 * 2 ^ (1 - (-1075) : Int).toNat)) (1 * 2 ^ (0 - 2 * (-1075) : Int).toNat) 4503599627370496 (2 ^ 1021 * (2 ^ (kleast 64 - (-1075)).toNat * (1 * 2 ^ (1 - (-1075) : Int).toNat))) (2 ^ 1020 * (2 ^ (kleast 64 - (-1075)).toNat * (1 * 2 ^ (1 - (-1075) : Int).toNat))) 4602678819172646912 false false false :=
 ⟨by decide +kernel,by decide +kernel,by decide +kernel,by decide +kernel,by decide +kernel,by decide +kernel,by decide +kernel,by decide +kernel,by decide +kernel⟩
theorem quot_half (a b : Option Addr) (c d : Nat) (w : World) (h1 : Sl w (.slice a 1 c) [1]) (h2 : Sl w (.slice b 1 d) [1]) (hT : Tab w) : Calls Tryz.prog 23 #[.agg #[.bool false,.slice a 1 c,.int .i64 0],.agg #[.bool false,.slice b 1 d,.int .i64 1],.int .i64 64,.int .i64 0] w fun e w' => e = .returned (.tuple #[.int .i64 4602678819172646912,.bool false,.int .i64 0]) ∧ Kept w w':=by
 obtain ⟨k,Q,H,F,od,hf,rt,hC,hP⟩:=quotz_all 64 (.inl rfl) ⟨false,[1],0⟩ ⟨false,[1],1⟩ vld10 vld1x (by decide) (by decide) (-1075) (by decide) (by decide) (by decide +kernel) (by decide +kernel) (by decide)
 have e1 : nv [1] = 1:=by decide +kernel
 dsimp only at hC
 rw [e1] at hC
 have hS:=cutz_same hC half_cut (rv_lt 64 (.inl rfl)) 0 (.inl rfl) false (ifn 64)
 have:=hP 0 (.inl rfl) a b c d w hT h1 h2
 dsimp only [bne_self_eq_false] at this
 rw [show (false != false) = false from rfl,hS.1,hS.2] at this
 exact this
theorem mean_half (w : World) (hT : Tab w) (vn : Bool) (va : Option Addr) (vl vc : Nat) (vx : Int) (e1 : vn = false) (e2 : vl = 1) (e3 : vx = 0) (hs : Sl w (.slice va vl vc) [1]) : Calls Tryz.prog 22 #[accV vn (.slice va vl vc) vx false false false,.int .i64 2,.int .i64 64] w fun e w' => e = .returned (.tuple #[.int .i64 4602678819172646912,.int .i64 0]) ∧ Kept w w':=by
 subst e1 e2 e3
 refine accMean_ok 64 2 (by decide) false va 1 vc 0 false false false w (nfE (ivn 64) (nvn 64) (gvn 64) false false false).1 false 4602678819172646912 0 false (fun u vn va vl vc vx => vn = false ∧ vl = 1 ∧ vx = 1 ∧ Sl u (.slice va vl vc) [1]) (fun v k => lookA 64 ⟨false,[1],0⟩ (by intro d hd; simp at hd; subst hd; decide) (by decide) false false false va vc v (hs.kept k) 0 (by rw [vld10]; rfl)) (fun v k => notFin 64 (.inl rfl) false va 1 vc 0 false false false v) (fun u k => ?_) (fun u vn va2 vl vc2 vx k hpn => ?_)
 ·refine (int_pos 2 (by decide) (by decide) ⟨false,[1],1⟩ ?_ u (hT.kept k)).mono ?_
  ·have:=frm_shift false 1 1 0 (by decide)
   rw [show (0 : Int) + ((1 : Nat) : Int) = 1 by rfl,frm_one 1 (by decide) (by decide)] at this
   exact this
  ·rintro e w' ⟨⟨v,rfl,hN⟩,k2⟩
   obtain ⟨vn,va,vl,vc,vx,rfl⟩:=hN.shape
   obtain ⟨e1,e2,e3,e4,h5⟩:=hN.parts
   exact ⟨vn,va,vl,vc,vx,rfl,⟨e1,e2,e3,h5⟩,k2⟩
 ·obtain ⟨rfl,rfl,rfl,h5⟩:=hpn
  exact quot_half va va2 vc vc2 u (hs.kept k) h5 (hT.kept k)
theorem pow_lift (k : Nat) : (2 : Int) * 2 ^ k = 2 ^ (k + 1):=by rw [Int.pow_succ,Int.mul_comm]
theorem pv_pow (n x : Int) (e : Nat) (h1 : (pneg x n != pneg x n) = false) (h2 : pmag x n * pmag x n = 2 ^ e) (h3 : (pexp x n + pexp x n + 2148).toNat + e = 2148) : ∃ k : Nat,k = 2148 ∧ pval n x x = 2 ^ k:=by
 refine ⟨_,h3,?_⟩
 unfold pval
 rw [h1,h2,Int.pow_add,Int.mul_comm]
 rfl
theorem pv_one : ∃ V : Int,pval 64 4607182418800017408 4607182418800017408 = V ∧ pval 32 1065353216 1065353216 = V ∧ cfm V (-2148) = some ⟨false,[1],0⟩ ∧ cfm (2 * V) (-2148) = some ⟨false,[1],1⟩:=by
 obtain ⟨k,hk,h1⟩:=pv_pow 64 4607182418800017408 104 (by decide +kernel) (by decide +kernel) (by decide +kernel)
 obtain ⟨k',hk',h2⟩:=pv_pow 32 1065353216 46 (by decide +kernel) (by decide +kernel) (by decide +kernel)
 obtain rfl : k' = k:=by omega
 refine ⟨_,h1,h2,?_,?_⟩
 ·have:=cfm_pow k' (by omega) (by omega)
  rw [show (k' : Int) - 2148 = 0 by omega] at this
  exact this
 ·have:=cfm_pow (k' + 1) (by omega) (by omega)
  rw [show ((k' + 1 : Nat) : Int) - 2148 = 1 by omega] at this
  rw [pow_lift]
  exact this
theorem alive3 (w : World) (hT : Tab w) : Calls Tryz.prog 9 #[] w fun e w' => e = .returned (.bool true) ∧ Kept w w':=by
 obtain ⟨V,p64,p32,hV1,hV2⟩:=pv_one
 have F64 : ∀ u,Calls Tryz.prog 32 #[.int .i64 1,.int .i64 64] u fun e w' => e = .returned (.int .i64 4607182418800017408) ∧ Kept u w':=fun u => (fromOne_64 u).mono (by rintro e w' ⟨rfl,rfl⟩; exact ⟨rfl,Kept.refl _⟩)
 have KS : Hid (∀ q u,Kept w u → q < u.heap.size → u.cell? ⟨q,0,none⟩ = some (.int .i64 4607182418800017408) → u.cell? ⟨q,1,none⟩ = some (.int .i64 4607182418800017408) → Calls Tryz.prog 35 #[.slice (some ⟨q,0,none⟩) 2 2,.int .i64 64] u fun e w' => e = .returned (.tuple #[.int .i64 4611686018427387904,.int .i64 0]) ∧ Kept u w'):=fun q u k hq h0 h1 => sum_two 64 4607182418800017408 4611686018427387904 (.inl rfl) (by decide) (by decide) (by decide +kernel) (by decide +kernel) V p64 hV2 (by decide +kernel) F64 q u (hT.kept k) (sl_two hq h0 h1)
 have KD : Hid (∀ q q' u,Kept w u → q < u.heap.size → u.cell? ⟨q,0,none⟩ = some (.int .i64 1065353216) → u.cell? ⟨q,1,none⟩ = some (.int .i64 1065353216) → q' < u.heap.size → u.cell? ⟨q',0,none⟩ = some (.int .i64 1065353216) → u.cell? ⟨q',1,none⟩ = some (.int .i64 1065353216) → Calls Tryz.prog 36 #[.slice (some ⟨q,0,none⟩) 2 2,.slice (some ⟨q',0,none⟩) 2 2,.int .i64 32] u fun e w' => e = .returned (.tuple #[.int .i64 1073741824,.int .i64 0]) ∧ Kept u w'):=fun q q' u k hq h0 h1 hq' h2 h3 => dot_two 32 1065353216 1073741824 (.inr rfl) (by decide) (by decide) (by decide +kernel) (by decide +kernel) V p32 hV2 (by decide +kernel) q q' u (hT.kept k) (sl_two hq h0 h1) (sl_two hq' h2 h3)
 have KA : Hid (∀ u,Kept w u → Calls Tryz.prog 28 #[accZ,.int .i64 4607182418800017408,.int .i64 64] u fun e w' => ∃ un ua ul uc ux,e = .returned (.tuple #[accV un (.slice ua ul uc) ux false false false,.int .i64 0]) ∧ (∀ v,Kept w' v → Calls Tryz.prog 22 #[accV un (.slice ua ul uc) ux false false false,.int .i64 2,.int .i64 64] v fun e w' => e = .returned (.tuple #[.int .i64 4602678819172646912,.int .i64 0]) ∧ Kept v w') ∧ Kept u w'):=fun u k => by
  refine (add_zero_one 64 4607182418800017408 (.inl rfl) (by decide) (by decide) (by decide +kernel) (by decide +kernel) V p64 hV1 F64 u (hT.kept k)).mono ?_
  rintro e w' ⟨un,ua,ul,uc,ux,rfl,hN,k2⟩
  obtain ⟨e1,e2,e3,e4,h5⟩:=hN.parts
  exact ⟨un,ua,ul,uc,ux,rfl,fun v k3 => mean_half v (hT.kept ((k.trans k2).trans k3)) un ua ul uc ux e1 e2 e3 (h5.kept k3),k2⟩
 clear hT F64 p64 p32 hV1 hV2
 go_enter Tryz.func9,Tryz.ntmps9
 go_wp2_with fail
 refine (KS.out _ _ ((Kept.refl w).alloc _ _) (by simp) (by simp [go_sem]) (by simp [go_sem])).mono ?_
 rintro e w1 ⟨rfl,k1⟩
 have kw1 : Kept w w1:=((Kept.refl w).alloc _ _).trans k1
 clear KS k1
 go_wp2_with fail
 refine (KD.out _ _ _ ((kw1.alloc _ _).alloc _ _) (by simp <;> omega) (by simp [go_sem]) (by simp [go_sem]) (by simp) (by simp [go_sem]) (by simp [go_sem])).mono ?_
 rintro e w2 ⟨rfl,k2⟩
 have kw2 : Kept w w2:=((kw1.alloc _ _).alloc _ _).trans k2
 clear KD k2 kw1
 go_wp2_with fail
 refine (KA.out _ kw2).mono ?_
 rintro e w3 ⟨un,ua,ul,uc,ux,rfl,hm,k3⟩
 have KM : Hid (∀ v,Kept w3 v → Calls Tryz.prog 22 #[accV un (.slice ua ul uc) ux false false false,.int .i64 2,.int .i64 64] v fun e w' => e = .returned (.tuple #[.int .i64 4602678819172646912,.int .i64 0]) ∧ Kept v w'):=hm
 clear hm KA
 have kw3 : Kept w w3:=kw2.trans k3
 clear kw2 k3
 go_wp2_with fail
 refine (KM.out _ ((Kept.refl w3).alloc _ _)).mono ?_
 rintro e w4 ⟨rfl,k4⟩
 go_wp2_with fail
 go_ret
 exact ⟨rfl,(kw3.alloc _ _).trans k4⟩
theorem lent3 (ng : Bool) (x : Int) (p m z : Bool) (L : List Int) (hlen : L.length < 10000000) (ao : Option Addr) (c : Nat) (w : World) (h : Sl w (.slice ao L.length c) L) : Calls Tryz.prog 37 #[accV ng (.slice ao L.length c) x p m z] w fun e w' => (∃ g cap,e = .returned (.tuple #[.slice (some ⟨g,0,none⟩) (L.length + 3) cap,accV ng (.slice (some ⟨g,0,none⟩) L.length cap) x p m z]) ∧ w.heap.size ≤ g ∧ Own w' g cap (L ++ [-71,-72,-73])) ∧ Kept w w':=by
 obtain ⟨X0,hX0⟩ : ∃ X,X = w.alloc (.cells #[.bool ng,.slice ao L.length c,.int .i64 x,.bool p,.bool m,.bool z] 26):=⟨_,rfl⟩
 obtain ⟨X,hX⟩ : ∃ X,X = (w.alloc (.cells #[.bool ng,.slice ao L.length c,.int .i64 x,.bool p,.bool m,.bool z] 26)).alloc (.cells #[.bool false,.slice none 0 0,.int .i64 0,.bool false,.bool false,.bool false] 26):=⟨_,rfl⟩
 have k0 : Kept w X:=by rw [hX]; exact ((Kept.refl w).alloc _ _).alloc _ _
 have k00 : Kept X0 X:=by rw [hX,hX0]; exact (Kept.refl _).alloc _ _
 obtain ⟨R,hR⟩ : ∃ R,R = w.heap.size + 1:=⟨_,rfl⟩
 have HXs : Hid (X.heap.size = w.heap.size + 2 ∧ R = w.heap.size + 1):=⟨by rw [hX]; simp,hR⟩
 have HS : Hid (∀ u,Kept X0 u → u.cell? ⟨w.heap.size,0,none⟩ = some (.bool ng) ∧ u.cell? ⟨w.heap.size,1,none⟩ = some (.slice ao L.length c) ∧ u.cell? ⟨w.heap.size,2,none⟩ = some (.int .i64 x) ∧ u.cell? ⟨w.heap.size,3,none⟩ = some (.bool p) ∧ u.cell? ⟨w.heap.size,4,none⟩ = some (.bool m) ∧ u.cell? ⟨w.heap.size,5,none⟩ = some (.bool z)):=fun u k => acc_cells1 ng (.slice ao L.length c) x p m z 26 w.heap.size rfl (by rw [hX0]; exact Kept.refl _) u k
 have HR : Hid (∀ u,Kept X u → _):=acc_res1 (w:=w.alloc (.cells #[.bool ng,.slice ao L.length c,.int .i64 x,.bool p,.bool m,.bool z] 26)) 26 R (by rw [hR]; simp) (by rw [hX]; exact Kept.refl _)
 have KL : Hid (Calls Tryz.prog 49 #[.agg #[.bool ng,.slice ao L.length c,.int .i64 x]] X fun e w' => (∃ g cap,e = .returned (.tuple #[.slice (some ⟨g,0,none⟩) (L.length + 3) cap,.agg #[.bool ng,.slice (some ⟨g,0,none⟩) L.length cap,.int .i64 x]]) ∧ X.heap.size ≤ g ∧ Own w' g cap (L ++ [-71,-72,-73])) ∧ Kept X w'):=lentNum_any ng x L hlen ao c X (h.kept k0)
 generalize hM : L ++ [-71,-72,-73] = M at *
 clear hM
 obtain ⟨N,hN⟩ : ∃ N,N = L.length:=⟨_,rfl⟩
 rw [← hN] at KL HS hX hX0 ⊢
 clear hN h
 go_enter Tryz.func37,Tryz.ntmps37
 go_upto_region 1 with fail
 rw [← hX,← hR]
 clear hX hX0 hR
 obtain ⟨c0,c1,c2,c3,c4,c5⟩:=HS.out _ k00
 go_wp2_with fail
 refine KL.out.mono ?_
 rintro e w1 ⟨⟨g,cap,rfl,hg,hO⟩,k1⟩
 clear c0 c1 c2 c3 c4 c5 KL
 go_upto_region 2 with fail
 obtain ⟨D,hD⟩ : ∃ D,D = w1.alloc (.cells #[.bool ng,.slice (some ⟨g,0,none⟩) N cap,.int .i64 x] 24):=⟨_,rfl⟩
 obtain ⟨B,hB⟩ : ∃ B,B = w1.heap.size:=⟨_,rfl⟩
 have kD : Kept X D:=by rw [hD]; exact k1.alloc _ _
 have oD : Own D g cap M:=by rw [hD]; exact hO.kept ((Kept.refl _).alloc _ _)
 have hBR : B ≠ R:=by
  have:=k1.below.size
  have:=HXs.out
  omega
 have HB : Hid (∀ u,Kept D u → (u.cell? ⟨w.heap.size,3,none⟩ = some (.bool p) ∧ u.cell? ⟨w.heap.size,4,none⟩ = some (.bool m) ∧ u.cell? ⟨w.heap.size,5,none⟩ = some (.bool z)) ∧ u.cell? ⟨B,0,none⟩ = some (.bool ng) ∧ u.cell? ⟨B,1,none⟩ = some (.slice (some ⟨g,0,none⟩) N cap) ∧ u.cell? ⟨B,2,none⟩ = some (.int .i64 x)):=fun u k => by
  obtain ⟨-,-,-,b3,b4,b5⟩:=HS.out u (k00.trans (kD.trans k))
  have hb : B < D.heap.size:=by rw [hD,hB]; simp
  refine ⟨⟨b3,b4,b5⟩,?_,?_,?_⟩
  all_goals exact (k.below.cell hb).trans (by rw [hD,hB]; simp [go_sem])
 rw [← hD,← hB]
 clear hD hB hO k1
 have kd : Kept D D.drew:=(Kept.refl D).drew
 obtain ⟨r0,r1,r2,r3,r4,r5,r6⟩:=HR.out _ (kD.trans kd)
 obtain ⟨t0,t1,t2,t3,t4,t5,t6⟩:=HR.out _ kD
 obtain ⟨⟨b3,b4,b5⟩,b0,b1,b2⟩:=HB.out _ kd
 obtain ⟨⟨d3,d4,d5⟩,d0,d1,d2⟩:=HB.out _ (Kept.refl D)
 have hwR : w.heap.size ≠ R:=by have:=HXs.out; omega
 clear HS HR
 go_region_held (fun u => (u.cell? ⟨w.heap.size,3,none⟩ = some (.bool p) ∧ u.cell? ⟨w.heap.size,4,none⟩ = some (.bool m) ∧ u.cell? ⟨w.heap.size,5,none⟩ = some (.bool z)) ∧ u.cell? ⟨B,0,none⟩ = some (.bool ng) ∧ u.cell? ⟨B,1,none⟩ = some (.slice (some ⟨g,0,none⟩) N cap) ∧ u.cell? ⟨B,2,none⟩ = some (.int .i64 x)) (first | with_reducible assumption | with_reducible exact HB.out _ kd | (refine ⟨⟨?_,?_,?_⟩,?_,?_,?_⟩ <;> simp [go_sem,b0,b1,b2,b3,b4,b5,d0,d1,d2,d3,d4,d5,hBR,hwR])) (fail)
 go_wp2_with fail
 refine bodyPost_ret (v:=.tuple #[.slice (some ⟨g,0,none⟩) (N + 3) cap,accV ng (.slice (some ⟨g,0,none⟩) N cap) x p m z]) (by simp [results,Tryz.results37,go_sem,r0,r1,r2,r3,r4,r5,t0,t1,t2,t3,t4,t5]) rfl ⟨⟨g,cap,rfl,by have:=HXs.out; omega,?_⟩,?_⟩
 ·have hgR : g ≠ R:=by have:=HXs.out; omega
  exact ((((((oD.setOther (by simpa using hgR) _).setOther (by simpa using hgR) _).setOther (by simpa using hgR) _).setOther (by simpa using hgR) _).setOther (by simpa using hgR) _).setOther (by simpa using hgR) _).kept (Kept.refl _).drew
 ·exact (kept_six1 R (by have:=HXs.out; omega) (k0.trans kD) _ _ _ _ _ _).drew
def hvy (l : Nat) (x : Int) : Bool:=decide (300 < l) || decide (100000 < x) || decide (x < -100000)
theorem heavy3 (ng : Bool) (ao : Option Addr) (l c : Nat) (x : Int) (p m z : Bool) (w : World) : Calls Tryz.prog 10 #[accV ng (.slice ao l c) x p m z] w fun e w' => e = .returned (.bool (hvy l x)) ∧ Kept w w':=by
 obtain ⟨X,hX⟩ : ∃ X,X = w.alloc (.cells #[.bool ng,.slice ao l c,.int .i64 x,.bool p,.bool m,.bool z] 26):=⟨_,rfl⟩
 have hK : Kept w X:=by rw [hX]; exact (Kept.refl w).alloc _ _
 obtain ⟨R,hR⟩ : ∃ R,R = hvy l x:=⟨_,rfl⟩
 rw [← hR]
 unfold hvy at hR
 obtain ⟨c0,c1,c2,c3,c4,c5⟩:=acc_cells ng (.slice ao l c) x p m z hX X (Kept.refl _)
 by_cases h1 : 300 < l
 ·rw [decide_eq_true h1,Bool.true_or,Bool.true_or] at hR
  subst hR
  have h1' : (300 : Int) < (l : Int):=by omega
  go_enter Tryz.func10,Tryz.ntmps10
  go_upto_region 1 with fail
  rw [← hX]
  clear hX
  go_wp2_with fail
  go_ret
  exact ⟨rfl,hK⟩
 ·rw [decide_eq_false h1,Bool.false_or] at hR
  have h1' : ¬ (300 : Int) < (l : Int):=by omega
  by_cases h2 : 100000 < x
  ·rw [decide_eq_true h2,Bool.true_or] at hR
   subst hR
   go_enter Tryz.func10,Tryz.ntmps10
   go_upto_region 1 with fail
   rw [← hX]
   clear hX
   go_wp2_with fail
   go_ret
   exact ⟨rfl,hK⟩
  ·rw [decide_eq_false h2,Bool.false_or] at hR
   subst hR
   go_enter Tryz.func10,Tryz.ntmps10
   go_upto_region 1 with fail
   rw [← hX]
   clear hX
   go_wp2_with fail
   go_ret
   exact ⟨rfl,hK⟩
theorem rvalid3 (ng : Bool) (ao : Option Addr) (l cap : Nat) (x : Int) (p m z v : Bool) (w : World)
  (K : Hid (∀ u,Kept w u → Calls Tryz.prog 50 #[.agg #[.bool ng,.slice ao l cap,.int .i64 x]] u fun e w' => e = .returned (.bool v) ∧ Kept u w')) :
  Calls Tryz.prog 39 #[accV ng (.slice ao l cap) x p m z] w fun e w' => e = .returned (.bool v) ∧ Kept w w':=by
 obtain ⟨X,hX⟩ : ∃ X,X = w.alloc (.cells #[.bool ng,.slice ao l cap,.int .i64 x,.bool p,.bool m,.bool z] 26):=⟨_,rfl⟩
 have hK : Kept w X:=by rw [hX]; exact (Kept.refl w).alloc _ _
 go_enter Tryz.func39,Tryz.ntmps39
 go_wp2_with fail
 rw [← hX]
 refine (K.out _ hK).mono ?_
 rintro e w1 ⟨rfl,k1⟩
 go_wp2_with fail
 go_ret
 exact ⟨rfl,hK.trans k1⟩
end Go.Proofs.YtoflafgbbjinpaaGreatDoor
