/- The document's AddOne,by values. For AccMerges: the document's Same,AddNum,Join,Neg,Answer,and what the law asks of an answer. For AccMerges: the document's Join. -/
import Derived.Test.YtoflafgbbjinpaaGreatDoorX38
import Derived.Test.YtoflafgbbjinpaaGreatDoorX39
import Derived.Test.YtoflafgbbjinpaaGreatDoorX11
namespace Go.Proofs.YtoflafgbbjinpaaGreatDoor
open Go.ChangeShapes Go.WideShapes Go.ChangeAt Go.RowKit
set_option linter.unusedVariables false
set_option linter.unusedSimpArgs false
set_option maxHeartbeats 16000000
set_option maxRecDepth 100000
theorem ord_neg (b n : Int) (hn : n = 64 ∨ n = 32) (hc : cls b n ≠ 4) : decide (ord b 0 n < 0) = sgn b n:=by
 have h0 : plc 0 n = 0:=by rcases hn with rfl | rfl <;> decide +kernel
 have hi : isnum b n = true:=by
  rcases hn with rfl | rfl <;> simpa [isnum] using hc
 unfold ord sgn
 rw [h0]
 unfold plc cmpI
 rw [if_pos hi]
 rcases hn with rfl | rfl
 ·simp only [if_true]
  by_cases h : b < 0
  ·rw [if_pos h,if_pos (by omega),decide_eq_true h]; decide
  ·rw [if_neg h,if_neg h,decide_eq_false h]
   split <;> decide
 ·simp only [show ¬ ((32 : Int) = 64) by decide,if_false]
  have hv : 0 ≤ b:=by
   unfold cls at hc
   simp only [show ¬ ((32 : Int) = 64) by decide,if_false,if_true] at hc
   by_cases hb : 0 ≤ b ∧ b < 4294967296
   ·exact hb.1
   ·rw [if_neg hb] at hc; exact absurd rfl hc
  by_cases h : 2147483648 ≤ b
  ·rw [if_pos h,if_pos (by omega),decide_eq_true h]; decide
  ·rw [if_neg h,if_neg (by omega),decide_eq_false h]
   split <;> decide
theorem rneg_any (b n : Int) (hn : n = 64 ∨ n = 32) (hc : cls b n ≠ 4) (b1 : -9223372036854775808 ≤ b) (b2 : b ≤ 9223372036854775807) (w : World) : Calls Tryz.prog 93 #[.int .i64 b,.int .i64 n] w fun e w' => e = .returned (.bool (sgn b n)) ∧ Kept w w':=by
 rw [← ord_neg b n hn hc]
 exact rnegative b n (ord b 0 n) w (fun u => rorder_any b 0 n b1 b2 (by omega) (by omega) u)
theorem one_zv (n : Int) (hn : n = 64 ∨ n = 32) : zv n (oneN n) = 2 ^ k74:=by
 rcases hn with rfl | rfl
 ·have e : (pexp (oneN 64) 64 + 1074).toNat = k74 - 52:=by decide +kernel
  have m : pmag (oneN 64) 64 = 2 ^ 52:=by decide +kernel
  have g : pneg (oneN 64) 64 = false:=by decide +kernel
  unfold zv
  rw [e,m,g]
  simp only [sg,← Int.pow_add]
  rw [show 52 + (k74 - 52) = k74 by rw [k74_is]]
  simp
 ·have e : (pexp (oneN 32) 32 + 1074).toNat = k74 - 23:=by decide +kernel
  have m : pmag (oneN 32) 32 = 2 ^ 23:=by decide +kernel
  have g : pneg (oneN 32) 32 = false:=by decide +kernel
  unfold zv
  rw [e,m,g]
  simp only [sg,← Int.pow_add]
  rw [show 23 + (k74 - 23) = k74 by rw [k74_is]]
  simp
theorem one_cls (n : Int) (hn : n = 64 ∨ n = 32) : cls (oneN n) n = 2 ∧ sgn (oneN n) n = false:=by
 rcases hn with rfl | rfl <;> decide +kernel
theorem dn_of (n b : Int) (hn : n = 64 ∨ n = 32) (b1 : -9223372036854775808 ≤ b) (b2 : b ≤ 9223372036854775807) (hc : cls b n < 3) : DN (pvl n b (oneN n)) (ofN b n):=by
 obtain ⟨o1,o2,o3⟩:=oneN_ok n hn
 have ho:=(one_cls n hn).1
 refine ⟨big_lt (pvl_lt n b (oneN n) hn b1 b2 o1 o2),?_⟩
 have hb : bth n b (oneN n) = true:=by simp [bth,hc,ho]
 unfold pvl
 rw [if_pos hb,pval_zv n b (oneN n) (finP_of b n b1 b2 hn hc) (finP_of (oneN n) n o1 o2 hn (by omega)),one_zv n hn,cfm_shift,show (-2148 : Int) + (k74 : Int) = -1074 by rw [k74_is]; rfl]
 exact of_zv n b hn hc (finP_of b n b1 b2 hn hc)
theorem one_fin (n b : Int) (hn : n = 64 ∨ n = 32) (hc : cls b n < 3) : fP n b (oneN n) = false ∧ fM n b (oneN n) = false ∧ fN n b (oneN n) = false:=by
 have ho:=(one_cls n hn).1
 have hb : bth n b (oneN n) = true:=by simp [bth,hc,ho]
 simp [fP,fM,fN,hb]
theorem one_inf (n b : Int) (hn : n = 64 ∨ n = 32) (hc : cls b n = 3) : fP n b (oneN n) = !sgn b n ∧ fM n b (oneN n) = sgn b n ∧ fN n b (oneN n) = false ∧ pvl n b (oneN n) = 0:=by
 obtain ⟨h1,h2⟩:=one_cls n hn
 have hb : bth n b (oneN n) = false:=by simp [bth,hc]
 simp [fP,fM,fN,pvl,hb,hc,h1,h2]
theorem one_nan (n b : Int) (hn : n = 64 ∨ n = 32) (hc : cls b n = 4) : fP n b (oneN n) = false ∧ fM n b (oneN n) = false ∧ fN n b (oneN n) = true ∧ pvl n b (oneN n) = 0:=by
 obtain ⟨h1,h2⟩:=one_cls n hn
 have hb : bth n b (oneN n) = false:=by simp [bth,hc]
 simp [fP,fM,fN,pvl,hb,hc]
/- the document's Plus,by values -/
theorem rlp_other {P : Nat → Prop} {u : World} {s : Value} {L : List Int} (h : RLp P u s L) (q o : Nat) (hq : ∀ c,P c → c ≠ q) (v : Value) : RLp P (u.setCell ⟨q,o,none⟩ v) s L:=by
 obtain ⟨ao,c,rfl,hc,hs,hp⟩:=h
 exact ⟨ao,c,rfl,hc,sl_other hs _ (fun b off e hne => hq b (hp b off hne e)) v,hp⟩
theorem RLp.low {P : Nat → Prop} {u : World} {s : Value} {L : List Int} (h : RLp P u s L) : RLp (fun c => P c ∧ c < u.heap.size) u s L:=by
 obtain ⟨ao,c,rfl,hc,hs,hp⟩:=h
 refine ⟨ao,c,rfl,hc,hs,fun b off hne e => ⟨hp b off hne e,?_⟩⟩
 obtain ⟨a',c',e',h1,h2,hr⟩:=hs
 cases e'
 obtain ⟨b',off',e2,hb,-⟩:=hr hne
 rw [e] at e2
 cases e2
 exact hb
theorem raddone_fin (n b c : Int) (r q : Nm) (ao : Option Addr) (l d : Nat) (p m z : Bool) (w : World) (P : Nat → Prop) (hP1 : ∀ x,P x → x ≠ w.heap.size) (hP2 : ∀ x,P x → x ≠ w.heap.size + 1)
  (h4 : (c == 4) = false) (h3 : (c == 3) = false)
  (KC : Hid (∀ u,Calls Tryz.prog 91 #[.int .i64 b,.int .i64 n] u fun e w' => e = .returned (.int .i64 c) ∧ Kept u w'))
  (KE : Hid (∀ u,Kept w u → w.heap.size + 2 ≤ u.heap.size → Calls Tryz.prog 95 #[.int .i64 b,.int .i64 n] u fun e w' => ∃ v,e = .returned v ∧ Hid (RNp P w' v (ofN b n)) ∧ Kept u w'))
  (KP : Hid (∀ u v,Kept w u → w.heap.size + 2 ≤ u.heap.size → Hid (RNp P u v (ofN b n)) → Calls Tryz.prog 94 #[.agg #[.bool r.neg,.slice ao l d,.int .i64 r.exp],v] u fun e w' => ∃ ua uc,e = .returned (.agg #[.bool q.neg,.slice ua q.mag.length uc,.int .i64 q.exp]) ∧ Hid (RLp P w' (.slice ua q.mag.length uc) q.mag) ∧ Kept u w')) :
  Calls Tryz.prog 43 #[accV r.neg (.slice ao l d) r.exp p m z,.int .i64 b,.int .i64 n] w fun e w' => ∃ ua uc,e = .returned (accV q.neg (.slice ua q.mag.length uc) q.exp p m z) ∧ Hid (RLp P w' (.slice ua q.mag.length uc) q.mag) ∧ Kept w w':=by
 obtain ⟨X,hX⟩ : ∃ X,X = (w.alloc (.cells #[.bool r.neg,.slice ao l d,.int .i64 r.exp,.bool p,.bool m,.bool z] 26)).alloc (.cells #[.bool false,.slice none 0 0,.int .i64 0,.bool false,.bool false,.bool false] 26):=⟨_,rfl⟩
 have k0 : Kept w X:=by rw [hX]; exact ((Kept.refl w).alloc _ _).alloc _ _
 have hXs : Hid (X.heap.size = w.heap.size + 2):=by rw [hX]; simp [Hid]
 obtain ⟨B,hB⟩ : ∃ B,B = w.heap.size:=⟨_,rfl⟩
 obtain ⟨C,hC⟩ : ∃ B,B = w.heap.size + 1:=⟨_,rfl⟩
 have HB : Hid (∀ u,Kept X u → u.cell? ⟨B,0,none⟩ = some (.bool r.neg) ∧ u.cell? ⟨B,1,none⟩ = some (.slice ao l d) ∧ u.cell? ⟨B,2,none⟩ = some (.int .i64 r.exp) ∧ u.cell? ⟨B,3,none⟩ = some (.bool p) ∧ u.cell? ⟨B,4,none⟩ = some (.bool m) ∧ u.cell? ⟨B,5,none⟩ = some (.bool z) ∧ ∀ o,u.frozen? ⟨B,o,none⟩ = false):=fun u k => by
  refine ⟨?_,?_,?_,?_,?_,?_,fun o => ?_⟩
  iterate 6 (exact (k.below.cell (by rw [hXs.out]; dsimp only; omega)).trans (by rw [hX,hB]; simp [go_sem]))
  exact (k.frozen _).trans (by rw [hX,hB]; simp [go_sem])
 have HC : Hid (∀ u,Kept X u → u.cell? ⟨C,0,none⟩ = some (.bool false) ∧ u.cell? ⟨C,1,none⟩ = some (.slice none 0 0) ∧ u.cell? ⟨C,2,none⟩ = some (.int .i64 0) ∧ u.cell? ⟨C,3,none⟩ = some (.bool false) ∧ u.cell? ⟨C,4,none⟩ = some (.bool false) ∧ u.cell? ⟨C,5,none⟩ = some (.bool false) ∧ ∀ o,u.frozen? ⟨C,o,none⟩ = false):=fun u k => by
  refine ⟨?_,?_,?_,?_,?_,?_,fun o => ?_⟩
  iterate 6 (exact (k.below.cell (by rw [hXs.out]; dsimp only; omega)).trans (by rw [hX,hC]; simp [go_sem]))
  exact (k.frozen _).trans (by rw [hX,hC]; simp [go_sem])
 have hBC : Hid (B ≠ C ∧ w.heap.size ≤ B ∧ w.heap.size ≤ C):=(show _ ∧ _ ∧ _ from by omega)
 rw [← hB] at hP1
 rw [← hC] at hP2
 go_enter Tryz.func43,Tryz.ntmps43
 go_upto_region 1 with fail
 rw [← hX,← hC,← hB]
 clear hX hB hC
 go_wp2_with fail
 refine (KC.out _).mono ?_
 rintro e w1 ⟨rfl,k1⟩
 go_wp2_with fail
 obtain ⟨y0,y1,y2,y3,y4,y5,y6⟩:=HB.out _ k1
 refine wp_region_late [7] (fun u => Kept X u ∧ u.cell? ⟨B,0,none⟩ = some (.bool r.neg) ∧ u.cell? ⟨B,1,none⟩ = some (.slice ao l d) ∧ u.cell? ⟨B,2,none⟩ = some (.int .i64 r.exp)) (by kernel_rfl) (⟨k1.drew,(HB.out _ k1.drew).1,(HB.out _ k1.drew).2.1,(HB.out _ k1.drew).2.2.1⟩) (fun hHeld => ?_)
 clear y0 y1 y2 y3 y4 y5 y6
 refine tkD (i:=0) (v:=?_) rfl hHeld ?_
 (try simp only [Act.put,zA,zB,zC,zD,zE,zF])
 refine tkD (i:=1) (v:=?_) rfl hHeld ?_
 (try simp only [Act.put,zA,zB,zC,zD,zE,zF])
 refine tkD (i:=2) (v:=?_) rfl hHeld ?_
 (try simp only [Act.put,zA,zB,zC,zD,zE,zF])
 refine tkD (i:=3) (v:=?_) rfl hHeld ?_
 (try simp only [Act.put,zA,zB,zC,zD,zE,zF])
 refine wpAnyD_step (i:=4) (by kernel_rfl) rfl (fun K hK9 => ?_)
 go_simp
 go_wp2_with fail
 refine (KE.out _ (k0.trans hHeld.1) (by have:=hHeld.1.below.size; rw [hXs.out] at this; exact this)).mono ?_
 rintro e u2 ⟨ve,rfl,he,k2⟩
 refine hK9.out _ _ (⟨hHeld.1.trans k2,(HB.out _ (hHeld.1.trans k2)).1,(HB.out _ (hHeld.1.trans k2)).2.1,(HB.out _ (hHeld.1.trans k2)).2.2.1⟩) (fun hH2 => ?_)
 clear hK9 K
 (try simp only [Act.put,zA,zB,zC,zD,zE,zF])
 refine wpAnyD_step (i:=5) (by kernel_rfl) rfl (fun K hK9 => ?_)
 go_simp
 go_wp2_with fail
 refine (KP.out _ ve (k0.trans hH2.1) (by have:=hH2.1.below.size; rw [hXs.out] at this; exact this) he).mono ?_
 rintro e u3 ⟨ua,uc,rfl,hs,k3⟩
 refine hK9.out _ _ (⟨hH2.1.trans k3,(HB.out _ (hH2.1.trans k3)).1,(HB.out _ (hH2.1.trans k3)).2.1,(HB.out _ (hH2.1.trans k3)).2.2.1⟩) (fun hH3 => ?_)
 clear hK9 K
 (try simp only [Act.put,zA,zB,zC,zD,zE,zF])
 refine tkD (i:=6) (v:=?_) rfl hH3 ?_
 (try simp only [Act.put,zA,zB,zC,zD,zE,zF])
 obtain ⟨y0,y1,y2,y3,y4,y5,y6⟩:=HB.out _ hH3.1
 obtain ⟨x0,x1,x2,x3,x4,x5,x6⟩:=HC.out _ hH3.1
 obtain ⟨n1,n2,n3⟩:=hBC.out
 refine wpAnyD_late (i:=7) (by kernel_rfl) rfl rfl (fun K hK9 => ?_)
 go_simp
 refine hK9.out _ _ ?_
 clear hK9 K
 (try simp only [Act.put,zA,zB,zC,zD,zE,zF])
 refine wpAnyD_done (by kernel_rfl) ?_ _
 (try simp only [Act.put,zA,zB,zC,zD,zE,zF])
 go_wp2_with fail
 have K9 : Kept w u3:=k0.trans hH3.1
 have hf : ∀ x,P x → x ≠ B:=hP1
 have hg : ∀ x,P x → x ≠ C:=hP2
 refine bodyPost_ret (v:=accV q.neg (.slice ua q.mag.length uc) q.exp p m z) (by simp [results,Tryz.results43,go_sem,accV,x0,x1,x2,x3,x4,x5,y0,y1,y2,n1,Ne.symm n1]) rfl ⟨ua,uc,rfl,?_,?_⟩
 ·exact rlp_other (rlp_other (rlp_other (rlp_other (rlp_other (rlp_other (rlp_other (rlp_other (rlp_other hs.out B 0 hf _) B 1 hf _) B 2 hf _) C 0 hg _) C 1 hg _) C 2 hg _) C 3 hg _) C 4 hg _) C 5 hg _
 ·exact kept_six1 C n3 (((K9.setCell (p:=⟨B,0,none⟩) n2 _).setCell (p:=⟨B,1,none⟩) n2 _).setCell (p:=⟨B,2,none⟩) n2 _) _ _ _ _ _ _
theorem raddone_nan (n b : Int) (r : Nm) (ao : Option Addr) (l d : Nat) (p m z : Bool) (w : World)
  (KC : Hid (∀ u,Calls Tryz.prog 91 #[.int .i64 b,.int .i64 n] u fun e w' => e = .returned (.int .i64 4) ∧ Kept u w')) :
  Calls Tryz.prog 43 #[accV r.neg (.slice ao l d) r.exp p m z,.int .i64 b,.int .i64 n] w fun e w' => e = .returned (accV r.neg (.slice ao l d) r.exp p m true) ∧ Kept w w':=by
 obtain ⟨X,hX⟩ : ∃ X,X = (w.alloc (.cells #[.bool r.neg,.slice ao l d,.int .i64 r.exp,.bool p,.bool m,.bool z] 26)).alloc (.cells #[.bool false,.slice none 0 0,.int .i64 0,.bool false,.bool false,.bool false] 26):=⟨_,rfl⟩
 have k0 : Kept w X:=by rw [hX]; exact ((Kept.refl w).alloc _ _).alloc _ _
 have hXs : Hid (X.heap.size = w.heap.size + 2):=by rw [hX]; simp [Hid]
 obtain ⟨B,hB⟩ : ∃ B,B = w.heap.size:=⟨_,rfl⟩
 obtain ⟨C,hC⟩ : ∃ B,B = w.heap.size + 1:=⟨_,rfl⟩
 have HB : Hid (∀ u,Kept X u → u.cell? ⟨B,0,none⟩ = some (.bool r.neg) ∧ u.cell? ⟨B,1,none⟩ = some (.slice ao l d) ∧ u.cell? ⟨B,2,none⟩ = some (.int .i64 r.exp) ∧ u.cell? ⟨B,3,none⟩ = some (.bool p) ∧ u.cell? ⟨B,4,none⟩ = some (.bool m) ∧ u.cell? ⟨B,5,none⟩ = some (.bool z) ∧ ∀ o,u.frozen? ⟨B,o,none⟩ = false):=fun u k => by
  refine ⟨?_,?_,?_,?_,?_,?_,fun o => ?_⟩
  iterate 6 (exact (k.below.cell (by rw [hXs.out]; dsimp only; omega)).trans (by rw [hX,hB]; simp [go_sem]))
  exact (k.frozen _).trans (by rw [hX,hB]; simp [go_sem])
 have HC : Hid (∀ u,Kept X u → u.cell? ⟨C,0,none⟩ = some (.bool false) ∧ u.cell? ⟨C,1,none⟩ = some (.slice none 0 0) ∧ u.cell? ⟨C,2,none⟩ = some (.int .i64 0) ∧ u.cell? ⟨C,3,none⟩ = some (.bool false) ∧ u.cell? ⟨C,4,none⟩ = some (.bool false) ∧ u.cell? ⟨C,5,none⟩ = some (.bool false) ∧ ∀ o,u.frozen? ⟨C,o,none⟩ = false):=fun u k => by
  refine ⟨?_,?_,?_,?_,?_,?_,fun o => ?_⟩
  iterate 6 (exact (k.below.cell (by rw [hXs.out]; dsimp only; omega)).trans (by rw [hX,hC]; simp [go_sem]))
  exact (k.frozen _).trans (by rw [hX,hC]; simp [go_sem])
 have hBC : Hid (B ≠ C ∧ w.heap.size ≤ B ∧ w.heap.size ≤ C):=(show _ ∧ _ ∧ _ from by omega)
 go_enter Tryz.func43,Tryz.ntmps43
 go_upto_region 1 with fail
 rw [← hX,← hC,← hB]
 clear hX hB hC
 go_wp2_with fail
 refine (KC.out _).mono ?_
 rintro e w1 ⟨rfl,k1⟩
 obtain ⟨y0,y1,y2,y3,y4,y5,y6⟩:=HB.out _ k1
 obtain ⟨x0,x1,x2,x3,x4,x5,x6⟩:=HC.out _ k1
 obtain ⟨n1,n2,n3⟩:=hBC.out
 go_wp2_with fail
 have K9 : Kept w w1:=k0.trans k1
 refine bodyPost_ret (v:=accV r.neg (.slice ao l d) r.exp p m true) (by simp [results,Tryz.results43,go_sem,accV,x0,x1,x2,x3,x4,x5,y0,y1,y2,n1,Ne.symm n1]) rfl ⟨rfl,?_⟩
 exact kept_six1 C n3 (K9.setCell (p:=⟨B,5,none⟩) n2 _) _ _ _ _ _ _
theorem raddone_inf (n b : Int) (sn : Bool) (r : Nm) (ao : Option Addr) (l d : Nat) (p m z P M : Bool) (w : World)
  (KC : Hid (∀ u,Calls Tryz.prog 91 #[.int .i64 b,.int .i64 n] u fun e w' => e = .returned (.int .i64 3) ∧ Kept u w'))
  (KN : Hid (∀ u,Calls Tryz.prog 93 #[.int .i64 b,.int .i64 n] u fun e w' => e = .returned (.bool sn) ∧ Kept u w'))
  (KI : Hid (∀ u,Calls Tryz.prog 92 #[accV r.neg (.slice ao l d) r.exp p m z,.bool sn] u fun e w' => e = .returned (accV r.neg (.slice ao l d) r.exp P M z) ∧ Kept u w')) :
  Calls Tryz.prog 43 #[accV r.neg (.slice ao l d) r.exp p m z,.int .i64 b,.int .i64 n] w fun e w' => e = .returned (accV r.neg (.slice ao l d) r.exp P M z) ∧ Kept w w':=by
 obtain ⟨X,hX⟩ : ∃ X,X = (w.alloc (.cells #[.bool r.neg,.slice ao l d,.int .i64 r.exp,.bool p,.bool m,.bool z] 26)).alloc (.cells #[.bool false,.slice none 0 0,.int .i64 0,.bool false,.bool false,.bool false] 26):=⟨_,rfl⟩
 have k0 : Kept w X:=by rw [hX]; exact ((Kept.refl w).alloc _ _).alloc _ _
 have hXs : Hid (X.heap.size = w.heap.size + 2):=by rw [hX]; simp [Hid]
 obtain ⟨B,hB⟩ : ∃ B,B = w.heap.size:=⟨_,rfl⟩
 obtain ⟨C,hC⟩ : ∃ B,B = w.heap.size + 1:=⟨_,rfl⟩
 have HB : Hid (∀ u,Kept X u → u.cell? ⟨B,0,none⟩ = some (.bool r.neg) ∧ u.cell? ⟨B,1,none⟩ = some (.slice ao l d) ∧ u.cell? ⟨B,2,none⟩ = some (.int .i64 r.exp) ∧ u.cell? ⟨B,3,none⟩ = some (.bool p) ∧ u.cell? ⟨B,4,none⟩ = some (.bool m) ∧ u.cell? ⟨B,5,none⟩ = some (.bool z) ∧ ∀ o,u.frozen? ⟨B,o,none⟩ = false):=fun u k => by
  refine ⟨?_,?_,?_,?_,?_,?_,fun o => ?_⟩
  iterate 6 (exact (k.below.cell (by rw [hXs.out]; dsimp only; omega)).trans (by rw [hX,hB]; simp [go_sem]))
  exact (k.frozen _).trans (by rw [hX,hB]; simp [go_sem])
 have HC : Hid (∀ u,Kept X u → u.cell? ⟨C,0,none⟩ = some (.bool false) ∧ u.cell? ⟨C,1,none⟩ = some (.slice none 0 0) ∧ u.cell? ⟨C,2,none⟩ = some (.int .i64 0) ∧ u.cell? ⟨C,3,none⟩ = some (.bool false) ∧ u.cell? ⟨C,4,none⟩ = some (.bool false) ∧ u.cell? ⟨C,5,none⟩ = some (.bool false) ∧ ∀ o,u.frozen? ⟨C,o,none⟩ = false):=fun u k => by
  refine ⟨?_,?_,?_,?_,?_,?_,fun o => ?_⟩
  iterate 6 (exact (k.below.cell (by rw [hXs.out]; dsimp only; omega)).trans (by rw [hX,hC]; simp [go_sem]))
  exact (k.frozen _).trans (by rw [hX,hC]; simp [go_sem])
 have hBC : Hid (B ≠ C ∧ w.heap.size ≤ B ∧ w.heap.size ≤ C):=(show _ ∧ _ ∧ _ from by omega)
 go_enter Tryz.func43,Tryz.ntmps43
 go_upto_region 1 with fail
 rw [← hX,← hC,← hB]
 clear hX hB hC
 go_wp2_with fail
 refine (KC.out _).mono ?_
 rintro e w1 ⟨rfl,k1⟩
 go_wp2_with fail
 have HS : Hid (∀ u,Kept X u → Kept X u ∧ u.cell? ⟨B,0,none⟩ = some (.bool r.neg) ∧ u.cell? ⟨B,1,none⟩ = some (.slice ao l d) ∧ u.cell? ⟨B,2,none⟩ = some (.int .i64 r.exp) ∧ u.cell? ⟨B,3,none⟩ = some (.bool p) ∧ u.cell? ⟨B,4,none⟩ = some (.bool m) ∧ u.cell? ⟨B,5,none⟩ = some (.bool z)):=fun u k => by
  obtain ⟨y0,y1,y2,y3,y4,y5,y6⟩:=HB.out _ k
  exact ⟨k,y0,y1,y2,y3,y4,y5⟩
 refine wp_region_late [5] (fun u => Kept X u ∧ u.cell? ⟨B,0,none⟩ = some (.bool r.neg) ∧ u.cell? ⟨B,1,none⟩ = some (.slice ao l d) ∧ u.cell? ⟨B,2,none⟩ = some (.int .i64 r.exp) ∧ u.cell? ⟨B,3,none⟩ = some (.bool p) ∧ u.cell? ⟨B,4,none⟩ = some (.bool m) ∧ u.cell? ⟨B,5,none⟩ = some (.bool z)) (by kernel_rfl) (HS.out _ k1.drew) (fun hHeld => ?_)
 refine tkD (i:=0) (v:=?_) rfl hHeld ?_
 (try simp only [Act.put,zA,zB,zC,zD,zE,zF])
 refine tkD (i:=1) (v:=?_) rfl hHeld ?_
 (try simp only [Act.put,zA,zB,zC,zD,zE,zF])
 refine tkD (i:=2) (v:=?_) rfl hHeld ?_
 (try simp only [Act.put,zA,zB,zC,zD,zE,zF])
 refine wpAnyD_step (i:=3) (by kernel_rfl) rfl (fun K hK9 => ?_)
 go_simp
 go_wp2_with fail
 refine (KN.out _).mono ?_
 rintro e u2 ⟨rfl,k2⟩
 refine hK9.out _ _ (HS.out _ (hHeld.1.trans k2)) (fun hH2 => ?_)
 clear hK9 K
 (try simp only [Act.put,zA,zB,zC,zD,zE,zF])
 refine wpAnyD_step (i:=4) (by kernel_rfl) rfl (fun K hK9 => ?_)
 go_simp
 go_wp2_with fail
 refine (KI.out _).mono ?_
 rintro e u3 ⟨rfl,k3⟩
 refine hK9.out _ _ (HS.out _ (hH2.1.trans k3)) (fun hH3 => ?_)
 clear hK9 K
 (try simp only [Act.put,zA,zB,zC,zD,zE,zF])
 obtain ⟨y0,y1,y2,y3,y4,y5,y6⟩:=HB.out _ hH3.1
 obtain ⟨x0,x1,x2,x3,x4,x5,x6⟩:=HC.out _ hH3.1
 obtain ⟨n1,n2,n3⟩:=hBC.out
 refine wpAnyD_late (i:=5) (by kernel_rfl) rfl rfl (fun K hK9 => ?_)
 go_simp
 refine hK9.out _ _ ?_
 clear hK9 K
 (try simp only [Act.put,zA,zB,zC,zD,zE,zF])
 refine wpAnyD_done (by kernel_rfl) ?_ _
 (try simp only [Act.put,zA,zB,zC,zD,zE,zF])
 go_wp2_with fail
 have K9 : Kept w u3:=k0.trans hH3.1
 refine bodyPost_ret (v:=accV r.neg (.slice ao l d) r.exp P M z) (by simp [results,Tryz.results43,go_sem,accV,x0,x1,x2,x3,x4,x5,y0,y1,y2,n1,Ne.symm n1]) rfl ⟨rfl,?_⟩
 exact kept_six1 C n3 K9 _ _ _ _ _ _
theorem cls_range (b n : Int) : 0 ≤ cls b n ∧ cls b n ≤ 4:=by
 unfold cls clsOf
 repeat' split
 all_goals decide
/- the document's AddOne of any pattern,by values -/
theorem rlp_six {P : Nat → Prop} {u : World} {s : Value} {L : List Int} (h : RLp P u s L) (B : Nat) (hq : ∀ c,P c → c ≠ B) (v0 v1 v2 v3 v4 v5 : Value) : RLp P (six u B v0 v1 v2 v3 v4 v5) s L :=
 rlp_other (rlp_other (rlp_other (rlp_other (rlp_other (rlp_other h B 0 hq v0) B 1 hq v1) B 2 hq v2) B 3 hq v3) B 4 hq v4) B 5 hq v5
theorem rlp_tri {P : Nat → Prop} {u : World} {s : Value} {L : List Int} (h : RLp P u s L) (B : Nat) (hq : ∀ c,P c → c ≠ B) (v0 v1 v2 : Value) : RLp P (((u.setCell ⟨B,0,none⟩ v0).setCell ⟨B,1,none⟩ v1).setCell ⟨B,2,none⟩ v2) s L :=
 rlp_other (rlp_other (rlp_other h B 0 hq v0) B 1 hq v1) B 2 hq v2
/- the document's Plus of two valid ones -/
theorem ranswer3 (x : Nm) (hR : Rg x.mag) (hlen : x.mag.length < 100000000) (p m z : Bool) (ao : Option Addr) (c : Nat) (w : World) (h : Sl w (.slice ao x.mag.length c) x.mag) :
  Calls Tryz.prog 98 #[accV x.neg (.slice ao x.mag.length c) x.exp p m z] w fun e w' => e = .returned (.tuple #[(if vld x = true then accV x.neg (.slice ao x.mag.length c) x.exp p m z else accZ),.int .i64 (if vld x = true then 0 else 2)]) ∧ Kept w w':=by
 have KV : Hid (∀ u,Kept w u → Calls Tryz.prog 39 #[accV x.neg (.slice ao x.mag.length c) x.exp p m z] u fun e w' => e = .returned (.bool (vld x)) ∧ Kept u w'):=fun u k => rvalid3 x.neg ao x.mag.length c x.exp p m z (vld x) u (fun t kt => rvalid2_any x hR hlen _ t ⟨_,rfl,(h.kept k).kept kt⟩)
 clear hR hlen h
 generalize vld x = v at *
 generalize x.mag.length = l at *
 generalize x.neg = ng at *
 generalize x.exp = xx at *
 obtain ⟨Y,hY⟩ : ∃ X,X = w.alloc (.cells #[.bool ng,.slice ao l c,.int .i64 xx,.bool p,.bool m,.bool z] 26):=⟨_,rfl⟩
 obtain ⟨X,hX⟩ : ∃ X,X = (w.alloc (.cells #[.bool ng,.slice ao l c,.int .i64 xx,.bool p,.bool m,.bool z] 26)).alloc (.cells #[.bool false,.slice none 0 0,.int .i64 0,.bool false,.bool false,.bool false] 26):=⟨_,rfl⟩
 have k0 : Kept w X:=by rw [hX]; exact ((Kept.refl w).alloc _ _).alloc _ _
 obtain ⟨B,hB⟩ : ∃ B,B = w.heap.size:=⟨_,rfl⟩
 obtain ⟨B2,hB2⟩ : ∃ B,B = w.heap.size + 1:=⟨_,rfl⟩
 have HXs : Hid (w.heap.size ≤ B2):=by rw [hB2]; exact Nat.le_succ _
 have HR : Hid (∀ u,Kept X u → _):=acc_res1 (w:=Y) 26 B2 (by rw [hY,hB2]; simp) (by rw [hX,hY]; exact Kept.refl _)
 have HA : Hid (∀ u,Kept X u → _):=acc_cells1 ng (.slice ao l c) xx p m z 26 B hB (X:=X) (by rw [hX]; exact (Kept.refl _).alloc _ _)
 go_enter Tryz.func98,Tryz.ntmps98
 go_upto_region 1 with fail
 rw [← hX,← hB2,← hB]
 clear hX hB2 hY hB
 obtain ⟨c0,c1,c2,c3,c4,c5⟩:=HA.out _ (Kept.refl _)
 go_wp2_with fail
 refine (KV.out _ k0).mono ?_
 rintro e w1 ⟨rfl,k1⟩
 clear c0 c1 c2 c3 c4 c5
 obtain ⟨c0,c1,c2,c3,c4,c5⟩:=HA.out _ k1
 obtain ⟨r0,r1,r2,r3,r4,r5,r6⟩:=HR.out _ k1
 cases v
 ·go_wp2_with fail
  exact bodyPost_ret (v:=.tuple #[accZ,.int .i64 2]) (by simp [results,Tryz.results98,go_sem,r0,r1,r2,r3,r4,r5]) rfl ⟨rfl,kept_six1 B2 HXs.out (k0.trans k1) _ _ _ _ _ _⟩
 ·go_wp2_with fail
  exact bodyPost_ret (v:=.tuple #[accV ng (.slice ao l c) xx p m z,.int .i64 0]) (by simp [results,Tryz.results98,go_sem,r0,r1,r2,r3,r4,r5]) rfl ⟨rfl,kept_six1 B2 HXs.out (k0.trans k1) _ _ _ _ _ _⟩
theorem is3_ok (kp : Value) (n1 : Bool) (a1 : Option Addr) (l1 c1 : Nat) (x1 : Int) (p m z : Bool) (f : Int) (n2 : Bool) (a2 : Option Addr) (l2 c2 : Nat) (x2 : Int) (p2 m2 z2 : Bool) (n3 : Bool) (a3 : Option Addr) (l3 c3' : Nat) (x3 : Int) (w : World) (Post : World → Prop)
  (KA : Hid (∀ u,Kept w u → Calls Tryz.prog 98 #[accV n2 (.slice a2 l2 c2) x2 p2 m2 z2] u fun e w' => e = .returned (.tuple #[accV n3 (.slice a3 l3 c3') x3 p m z,.int .i64 f]) ∧ Kept u w'))
  (KS : Hid (∀ u,Kept w u → Calls Tryz.prog 99 #[.agg #[.bool n1,.slice a1 l1 c1,.int .i64 x1],.agg #[.bool n3,.slice a3 l3 c3',.int .i64 x3]] u fun e w' => e = .returned (.bool true) ∧ Kept u w'))
  (KK : Hid (∀ u,Kept w u → Calls Tryz.prog 100 #[kp,.slice a1 l1 c1,.slice a3 l3 c3'] u fun e w' => e = .returned (.bool true) ∧ Post w')) :
  Calls Tryz.prog 47 #[kp,accV n1 (.slice a1 l1 c1) x1 p m z,.int .i64 f,.int .i64 0,accV n2 (.slice a2 l2 c2) x2 p2 m2 z2] w fun e w' => e = .returned (.bool true) ∧ Post w':=by
 obtain ⟨Y,hY⟩ : ∃ X,X = w.alloc (.cells #[.bool n1,.slice a1 l1 c1,.int .i64 x1,.bool p,.bool m,.bool z] 26):=⟨_,rfl⟩
 obtain ⟨X,hX⟩ : ∃ X,X = (w.alloc (.cells #[.bool n1,.slice a1 l1 c1,.int .i64 x1,.bool p,.bool m,.bool z] 26)).alloc (.cells #[.bool n2,.slice a2 l2 c2,.int .i64 x2,.bool p2,.bool m2,.bool z2] 26):=⟨_,rfl⟩
 have k0 : Kept w X:=by rw [hX]; exact ((Kept.refl w).alloc _ _).alloc _ _
 obtain ⟨B,hB⟩ : ∃ B,B = w.heap.size:=⟨_,rfl⟩
 obtain ⟨B2,hB2⟩ : ∃ B,B = w.heap.size + 1:=⟨_,rfl⟩
 have HXs : Hid (X.heap.size = w.heap.size + 2 ∧ B = w.heap.size ∧ B2 = w.heap.size + 1):=⟨by rw [hX]; simp,hB,hB2⟩
 have HA : Hid (∀ u,Kept X u → _):=acc_cells1 n1 (.slice a1 l1 c1) x1 p m z 26 B hB (X:=X) (by rw [hX]; exact (Kept.refl _).alloc _ _)
 have HW : Hid (∀ u,Kept X u → _):=acc_cells1 n2 (.slice a2 l2 c2) x2 p2 m2 z2 26 (w:=Y) B2 (by rw [hY,hB2]; simp) (X:=X) (by rw [hX,hY]; exact Kept.refl _)
 have HF : Hid (∀ o,X.frozen? ⟨B2,o,none⟩ = false):=fun o => by rw [hX,hB2]; simp [go_sem]
 go_enter Tryz.func47,Tryz.ntmps47
 go_upto_region 1 with fail
 rw [← hX,← hB2,← hB]
 clear hX hB2 hY hB
 obtain ⟨d0,d1,d2,d3,d4,d5⟩:=HW.out _ (Kept.refl _)
 go_wp2_with fail
 refine (KA.out _ k0).mono ?_
 rintro e u1 ⟨rfl,k1⟩
 clear d0 d1 d2 d3 d4 d5
 obtain ⟨d0,d1,d2,d3,d4,d5⟩:=HW.out _ k1
 have dz : ∀ o,u1.frozen? ⟨B2,o,none⟩ = false:=fun o => (k1.frozen _).trans (HF.out o)
 obtain ⟨E,hE⟩ : ∃ D,D = Go.Proofs.YtoflafgbbjinpaaGreatDoor.six u1 B2 (.bool n3) (.slice a3 l3 c3') (.int .i64 x3) (.bool p) (.bool m) (.bool z):=⟨_,rfl⟩
 have kE : Kept w E:=by rw [hE]; exact kept_six1 B2 (by have:=HXs.out; omega) (k0.trans k1) _ _ _ _ _ _
 have hne : B ≠ B2:=by have:=HXs.out; omega
 have HE : Hid (∀ u,Kept E u → (u.cell? ⟨B,0,none⟩ = some (.bool n1) ∧ u.cell? ⟨B,1,none⟩ = some (.slice a1 l1 c1) ∧ u.cell? ⟨B,2,none⟩ = some (.int .i64 x1) ∧ u.cell? ⟨B,3,none⟩ = some (.bool p) ∧ u.cell? ⟨B,4,none⟩ = some (.bool m) ∧ u.cell? ⟨B,5,none⟩ = some (.bool z)) ∧ u.cell? ⟨B2,0,none⟩ = some (.bool n3) ∧ u.cell? ⟨B2,1,none⟩ = some (.slice a3 l3 c3') ∧ u.cell? ⟨B2,2,none⟩ = some (.int .i64 x3) ∧ u.cell? ⟨B2,3,none⟩ = some (.bool p) ∧ u.cell? ⟨B2,4,none⟩ = some (.bool m) ∧ u.cell? ⟨B2,5,none⟩ = some (.bool z)):=fun u ku => by
  have hs1 : B < u1.heap.size:=by have:=k1.below.size; have:=HXs.out; omega
  have hs2 : B2 < u1.heap.size:=by have:=k1.below.size; have:=HXs.out; omega
  obtain ⟨g0,g1,g2,g3,g4,g5⟩:=HA.out _ k1
  obtain ⟨d0,d1,d2,d3,d4,d5⟩:=HW.out _ k1
  rw [hE] at ku
  refine ⟨⟨?_,?_,?_,?_,?_,?_⟩,?_,?_,?_,?_,?_,?_⟩
  all_goals first
   | exact (ku.below.cell (by simpa using hs1)).trans (by simp [go_sem,g0,g1,g2,g3,g4,g5,d0,d1,d2,d3,d4,d5,hne])
   | exact (ku.below.cell (by simpa using hs2)).trans (by simp [go_sem,g0,g1,g2,g3,g4,g5,d0,d1,d2,d3,d4,d5,hne])
 go_upto_region 4 with fail
 have e4:=hE
 unfold Go.Proofs.YtoflafgbbjinpaaGreatDoor.six at e4
 rw [← e4]
 clear hE e4 HA HW HF d0 d1 d2 d3 d4 d5 dz
 obtain ⟨⟨c0,c1',c2',c3,c4,c5⟩,d0,d1,d2,d3,d4,d5⟩:=HE.out _ (Kept.refl _)
 have ep : (p == p) = true:=by cases p <;> rfl
 have em : (m == m) = true:=by cases m <;> rfl
 have ez : (z == z) = true:=by cases z <;> rfl
 have ef : (f == f) = true:=by simp
 go_wp2_with fail
 refine (KS.out _ kE).mono ?_
 rintro e u2 ⟨rfl,k2⟩
 clear c0 c1' c2' c3 c4 c5 d0 d1 d2 d3 d4 d5
 obtain ⟨⟨c0,c1',c2',c3,c4,c5⟩,d0,d1,d2,d3,d4,d5⟩:=HE.out _ k2
 go_wp2_with fail
 refine (KK.out _ (kE.trans k2)).mono ?_
 rintro e u3 ⟨rfl,hp⟩
 go_wp2_with fail
 go_ret
 exact ⟨rfl,hp⟩
theorem is3_bad (kp : Value) (f : Int) (hf : f ≠ 0) (n2 : Bool) (a2 : Option Addr) (l2 c2 : Nat) (x2 : Int) (p2 m2 z2 : Bool) (w : World) (Post : World → Prop) (n1 : Bool) (a1 : Option Addr) (l1 c1 : Nat) (x1 : Int) (p m z : Bool) (hp : p = false) (hm : m = false) (hz : z = false)
  (KS : Hid (∀ u,Kept w u → Calls Tryz.prog 99 #[.agg #[.bool n1,.slice a1 l1 c1,.int .i64 x1],.agg #[.bool false,.slice none 0 0,.int .i64 0]] u fun e w' => e = .returned (.bool true) ∧ Kept u w'))
  (KK : Hid (∀ u,Kept w u → Calls Tryz.prog 100 #[kp,.slice a1 l1 c1,.slice none 0 0] u fun e w' => e = .returned (.bool true) ∧ Post w')) :
  Calls Tryz.prog 47 #[kp,accV n1 (.slice a1 l1 c1) x1 p m z,.int .i64 f,.int .i64 f,accV n2 (.slice a2 l2 c2) x2 p2 m2 z2] w fun e w' => e = .returned (.bool true) ∧ Post w':=by
 subst hp hm hz
 have hf2 : (f == 0) = false:=by simpa using hf
 obtain ⟨Y,hY⟩ : ∃ X,X = w.alloc (.cells #[.bool n1,.slice a1 l1 c1,.int .i64 x1,.bool false,.bool false,.bool false] 26):=⟨_,rfl⟩
 obtain ⟨X,hX⟩ : ∃ X,X = (w.alloc (.cells #[.bool n1,.slice a1 l1 c1,.int .i64 x1,.bool false,.bool false,.bool false] 26)).alloc (.cells #[.bool n2,.slice a2 l2 c2,.int .i64 x2,.bool p2,.bool m2,.bool z2] 26):=⟨_,rfl⟩
 have k0 : Kept w X:=by rw [hX]; exact ((Kept.refl w).alloc _ _).alloc _ _
 obtain ⟨B,hB⟩ : ∃ B,B = w.heap.size:=⟨_,rfl⟩
 obtain ⟨B2,hB2⟩ : ∃ B,B = w.heap.size + 1:=⟨_,rfl⟩
 have HXs : Hid (X.heap.size = w.heap.size + 2 ∧ B = w.heap.size ∧ B2 = w.heap.size + 1):=⟨by rw [hX]; simp,hB,hB2⟩
 have HA : Hid (∀ u,Kept X u → _):=acc_cells1 n1 (.slice a1 l1 c1) x1 false false false 26 B hB (X:=X) (by rw [hX]; exact (Kept.refl _).alloc _ _)
 have HW : Hid (∀ u,Kept X u → _):=acc_cells1 n2 (.slice a2 l2 c2) x2 p2 m2 z2 26 (w:=Y) B2 (by rw [hY,hB2]; simp) (X:=X) (by rw [hX,hY]; exact Kept.refl _)
 have HF : Hid (∀ o,X.frozen? ⟨B2,o,none⟩ = false):=fun o => by rw [hX,hB2]; simp [go_sem]
 go_enter Tryz.func47,Tryz.ntmps47
 go_upto_region 1 with fail
 rw [← hX,← hB2,← hB]
 clear hX hB2 hY hB
 have k1 : Kept X X:=Kept.refl _
 obtain ⟨d0,d1,d2,d3,d4,d5⟩:=HW.out _ k1
 have dz : ∀ o,X.frozen? ⟨B2,o,none⟩ = false:=HF.out
 obtain ⟨E,hE⟩ : ∃ D,D = Go.Proofs.YtoflafgbbjinpaaGreatDoor.six X B2 (.bool false) (.slice none 0 0) (.int .i64 0) (.bool false) (.bool false) (.bool false):=⟨_,rfl⟩
 have kE : Kept w E:=by rw [hE]; exact kept_six1 B2 (by have:=HXs.out; omega) (k0.trans k1) _ _ _ _ _ _
 have hne : B ≠ B2:=by have:=HXs.out; omega
 have HE : Hid (∀ u,Kept E u → (u.cell? ⟨B,0,none⟩ = some (.bool n1) ∧ u.cell? ⟨B,1,none⟩ = some (.slice a1 l1 c1) ∧ u.cell? ⟨B,2,none⟩ = some (.int .i64 x1) ∧ u.cell? ⟨B,3,none⟩ = some (.bool false) ∧ u.cell? ⟨B,4,none⟩ = some (.bool false) ∧ u.cell? ⟨B,5,none⟩ = some (.bool false)) ∧ u.cell? ⟨B2,0,none⟩ = some (.bool false) ∧ u.cell? ⟨B2,1,none⟩ = some (.slice none 0 0) ∧ u.cell? ⟨B2,2,none⟩ = some (.int .i64 0) ∧ u.cell? ⟨B2,3,none⟩ = some (.bool false) ∧ u.cell? ⟨B2,4,none⟩ = some (.bool false) ∧ u.cell? ⟨B2,5,none⟩ = some (.bool false)):=fun u ku => by
  have hs1 : B < X.heap.size:=by have:=k1.below.size; have:=HXs.out; omega
  have hs2 : B2 < X.heap.size:=by have:=k1.below.size; have:=HXs.out; omega
  obtain ⟨g0,g1,g2,g3,g4,g5⟩:=HA.out _ k1
  obtain ⟨d0,d1,d2,d3,d4,d5⟩:=HW.out _ k1
  rw [hE] at ku
  refine ⟨⟨?_,?_,?_,?_,?_,?_⟩,?_,?_,?_,?_,?_,?_⟩
  all_goals first
   | exact (ku.below.cell (by simpa using hs1)).trans (by simp [go_sem,g0,g1,g2,g3,g4,g5,d0,d1,d2,d3,d4,d5,hne])
   | exact (ku.below.cell (by simpa using hs2)).trans (by simp [go_sem,g0,g1,g2,g3,g4,g5,d0,d1,d2,d3,d4,d5,hne])
 go_upto_region 4 with fail
 have e4:=hE
 unfold Go.Proofs.YtoflafgbbjinpaaGreatDoor.six at e4
 rw [← e4]
 clear hE e4 HA HW HF d0 d1 d2 d3 d4 d5 dz
 obtain ⟨⟨c0,c1',c2',c3,c4,c5⟩,d0,d1,d2,d3,d4,d5⟩:=HE.out _ (Kept.refl _)
 have ef : (f == f) = true:=by simp
 go_wp2_with fail
 refine (KS.out _ kE).mono ?_
 rintro e u2 ⟨rfl,k2⟩
 clear c0 c1' c2' c3 c4 c5 d0 d1 d2 d3 d4 d5
 obtain ⟨⟨c0,c1',c2',c3,c4,c5⟩,d0,d1,d2,d3,d4,d5⟩:=HE.out _ k2
 go_wp2_with fail
 refine (KK.out _ (kE.trans k2)).mono ?_
 rintro e u3 ⟨rfl,hp⟩
 go_wp2_with fail
 go_ret
 exact ⟨rfl,hp⟩
end Go.Proofs.YtoflafgbbjinpaaGreatDoor
