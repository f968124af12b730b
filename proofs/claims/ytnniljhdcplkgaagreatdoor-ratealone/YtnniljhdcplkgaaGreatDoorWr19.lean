/- The walk of exact's below,in general: digits by values. -/
import Derived.Test.YtnniljhdcplkgaaGreatDoorWr18
namespace Go.Proofs.YtnniljhdcplkgaaGreatDoor
open Go.ChangeShapes Go.WideShapes Go.ChangeAt Go.RowKit
set_option maxHeartbeats 16000000
set_option maxRecDepth 100000
set_option linter.unusedVariables false
set_option linter.unusedSimpArgs false
def dg (V i : Nat) : Nat:=V / 2 ^ (30 * i) % 1073741824
theorem dg_lt (V i : Nat) : dg V i < 1073741824:=Nat.mod_lt _ (by decide)
theorem pow30k (k : Nat) : 2 ^ (30 * (k + 1)) = 2 ^ (30 * k) * 1073741824:=by
 rw [Nat.mul_add,Nat.pow_add]
theorem dg_split (V k : Nat) : V / 2 ^ (30 * k) = V / 2 ^ (30 * (k + 1)) * 1073741824 + dg V k:=by
 unfold dg
 rw [pow30k,← Nat.div_div_eq_div_mul]
 omega
theorem dg_mod (V k : Nat) : V % 2 ^ (30 * (k + 1)) = V % 2 ^ (30 * k) + 2 ^ (30 * k) * dg V k:=by
 unfold dg
 rw [pow30k,Nat.mod_mul]
theorem bel_eq (V U k : Nat) (h : V / 2 ^ (30 * (k + 1)) = U / 2 ^ (30 * (k + 1))) (hd : dg V k = dg U k) : V / 2 ^ (30 * k) = U / 2 ^ (30 * k):=by
 rw [dg_split V k,dg_split U k,h,hd]
theorem bel_lt (V U k : Nat) (h : V / 2 ^ (30 * (k + 1)) = U / 2 ^ (30 * (k + 1))) (hd : dg V k < dg U k) : V < U:=by
 apply Decidable.byContradiction
 intro hn
 have:=Nat.div_le_div_right (c:=2 ^ (30 * k)) (show U ≤ V by omega)
 rw [dg_split V k,dg_split U k,h] at this
 omega
theorem dg_zero_hi (V n : Nat) (h : V < 2 ^ (30 * (n + 1))) : dg V n = V / 2 ^ (30 * n):=by
 unfold dg
 rw [pow30k] at h
 exact Nat.mod_eq_of_lt (Nat.div_lt_of_lt_mul h)
def nmr (V U g k : Nat) : Int:=((V % 2 ^ (30 * k) : Nat) : Int) - (g : Int) * ((U % 2 ^ (30 * k) : Nat) : Int)
def ovr (V U g k : Nat) : Int:=nmr V U g k / ((2 ^ (30 * k) : Nat) : Int)
theorem ovr_zero (V U g : Nat) : ovr V U g 0 = 0:=by
 unfold ovr nmr
 rw [Nat.mul_zero,Nat.pow_zero,Nat.mod_one,Nat.mod_one]
 simp
theorem nmr_succ (V U g k : Nat) : nmr V U g (k + 1) = nmr V U g k + ((dg V k : Int) - (g : Int) * (dg U k : Int)) * ((2 ^ (30 * k) : Nat) : Int):=by
 unfold nmr
 rw [dg_mod,dg_mod,Int.natCast_add,Int.natCast_add,Int.natCast_mul,Int.natCast_mul,Int.mul_add,Int.sub_mul]
 have e1 : ((2 ^ (30 * k) : Nat) : Int) * (dg V k : Int) = (dg V k : Int) * ((2 ^ (30 * k) : Nat) : Int):=Int.mul_comm _ _
 have e2 : (g : Int) * (((2 ^ (30 * k) : Nat) : Int) * (dg U k : Int)) = (g : Int) * (dg U k : Int) * ((2 ^ (30 * k) : Nat) : Int):=by rw [Int.mul_assoc,Int.mul_comm ((2 ^ (30 * k) : Nat) : Int)]
 rw [e1,e2]
 omega
theorem nmr_div (V U g k : Nat) : nmr V U g (k + 1) / ((2 ^ (30 * k) : Nat) : Int) = ovr V U g k + ((dg V k : Int) - (g : Int) * (dg U k : Int)):=by
 have hp : ((2 ^ (30 * k) : Nat) : Int) ≠ 0:=by have:=Nat.two_pow_pos (30 * k); omega
 rw [nmr_succ,Int.add_mul_ediv_right _ _ hp]
 rfl
theorem ovr_step (V U g k : Nat) : (ovr V U g k + ((dg V k : Int) - (g : Int) * (dg U k : Int))) / 1073741824 = ovr V U g (k + 1):=by
 rw [← nmr_div]
 unfold ovr
 rw [pow30k,Int.natCast_mul,← Int.ediv_ediv_of_nonneg (Int.natCast_nonneg _)]
 rfl
theorem ovr_digit (V U g k : Nat) (h : g * U ≤ V) : (ovr V U g k + ((dg V k : Int) - (g : Int) * (dg U k : Int))) % 1073741824 = (dg (V - g * U) k : Int):=by
 rw [← nmr_div]
 have hp:=Nat.two_pow_pos (30 * k)
 have hdv:=Nat.div_add_mod V (2 ^ (30 * (k + 1)))
 have hdu:=Nat.div_add_mod U (2 ^ (30 * (k + 1)))
 have e : ((V - g * U : Nat) : Int) = nmr V U g (k + 1) + (((V / 2 ^ (30 * (k + 1)) : Nat) : Int) - (g : Int) * ((U / 2 ^ (30 * (k + 1)) : Nat) : Int)) * 1073741824 * ((2 ^ (30 * k) : Nat) : Int):=by
  unfold nmr
  rw [Int.natCast_sub h,Int.natCast_mul]
  have v1 : (V : Int) = ((2 ^ (30 * (k + 1)) : Nat) : Int) * ((V / 2 ^ (30 * (k + 1)) : Nat) : Int) + ((V % 2 ^ (30 * (k + 1)) : Nat) : Int):=by
   rw [← Int.natCast_mul,← Int.natCast_add,hdv]
  have u1 : (U : Int) = ((2 ^ (30 * (k + 1)) : Nat) : Int) * ((U / 2 ^ (30 * (k + 1)) : Nat) : Int) + ((U % 2 ^ (30 * (k + 1)) : Nat) : Int):=by
   rw [← Int.natCast_mul,← Int.natCast_add,hdu]
  have q : ((2 ^ (30 * (k + 1)) : Nat) : Int) = 1073741824 * ((2 ^ (30 * k) : Nat) : Int):=by rw [pow30k,Int.natCast_mul,Int.mul_comm]; rfl
  conv => lhs; rw [v1,u1]
  rw [q]
  generalize ((V / 2 ^ (30 * (k + 1)) : Nat) : Int) = a
  generalize ((U / 2 ^ (30 * (k + 1)) : Nat) : Int) = b
  generalize ((V % 2 ^ (30 * (k + 1)) : Nat) : Int) = c
  generalize ((U % 2 ^ (30 * (k + 1)) : Nat) : Int) = d
  generalize ((2 ^ (30 * k) : Nat) : Int) = P
  have t1 : (g : Int) * (1073741824 * P * b + d) = (g : Int) * b * 1073741824 * P + (g : Int) * d:=by
   rw [Int.mul_add]; congr 1
   ac_rfl
  have t2 : 1073741824 * P * a = a * 1073741824 * P:=by ac_rfl
  have t3 : (a - (g : Int) * b) * 1073741824 * P = a * 1073741824 * P - (g : Int) * b * 1073741824 * P:=by rw [Int.sub_mul,Int.sub_mul]
  rw [t1,t2,t3]
  omega
 unfold dg
 rw [Int.natCast_emod,Int.natCast_ediv,e,Int.add_mul_ediv_right _ _ (by omega)]
 exact (Int.add_mul_emod_self_right _ _ _).symm
theorem ovr_last (V U g n : Nat) (h : g * U ≤ V) (hV : V < 2 ^ (30 * (n + 1))) (hU : U < 2 ^ (30 * n)) : (dg V n : Int) + ovr V U g n = (dg (V - g * U) n : Int):=by
 have hp:=Nat.two_pow_pos (30 * n)
 have e:=nmr_div V U g n
 have hu0 : dg U n = 0:=by unfold dg; rw [Nat.div_eq_of_lt hU]
 rw [hu0] at e
 have en : nmr V U g (n + 1) = ((V - g * U : Nat) : Int):=by
  unfold nmr
  rw [Nat.mod_eq_of_lt hV,Nat.mod_eq_of_lt (Nat.lt_of_lt_of_le hU (Nat.pow_le_pow_right (by decide) (by omega))),Int.natCast_sub h,Int.natCast_mul]
 rw [en,← Int.natCast_ediv,← dg_zero_hi _ _ (Nat.lt_of_le_of_lt (Nat.sub_le _ _) hV)] at e
 rw [e]
 simp
 omega
theorem ovr_bounds (V U g k : Nat) : -(g : Int) - 1 ≤ ovr V U g k ∧ ovr V U g k ≤ 0:=by
 have hp:=Nat.two_pow_pos (30 * k)
 have hv : V % 2 ^ (30 * k) < 2 ^ (30 * k):=Nat.mod_lt _ hp
 have hu : U % 2 ^ (30 * k) < 2 ^ (30 * k):=Nat.mod_lt _ hp
 unfold ovr nmr
 generalize V % 2 ^ (30 * k) = a at *
 generalize U % 2 ^ (30 * k) = b at *
 generalize 2 ^ (30 * k) = P at *
 have hgb : g * b ≤ g * P:=Nat.mul_le_mul_left _ (by omega)
 have hgb' : (g : Int) * (b : Int) ≤ (g : Int) * (P : Int):=by rw [← Int.natCast_mul,← Int.natCast_mul]; omega
 have hgb0 : 0 ≤ (g : Int) * (b : Int):=by rw [← Int.natCast_mul]; omega
 constructor
 ·apply Int.le_ediv_of_mul_le (by omega)
  rw [Int.sub_mul,Int.neg_mul]
  omega
 ·have : ((a : Int) - (g : Int) * (b : Int)) / (P : Int) < 1:=Int.ediv_lt_of_lt_mul (by omega) (by omega)
  omega
/- the guess -/
theorem guess_ok (V U n : Nat) (hV : V < 2 ^ (30 * (n + 1 + 1))) (hU2 : U < 2 ^ (30 * (n + 1))) (hUV : U ≤ V) (g : Nat) (hg : g = max 1 ((V / 2 ^ (30 * n)) / (U / 2 ^ (30 * n) + 1))) : g * U ≤ V ∧ 1 ≤ g:=by
 refine ⟨?_,by omega⟩
 by_cases h1 : g = 1
 ·rw [h1]; omega
 ·have hg2 : g = V / 2 ^ (30 * n) / (U / 2 ^ (30 * n) + 1):=by omega
  have hp:=Nat.two_pow_pos (30 * n)
  have a1 : U ≤ (U / 2 ^ (30 * n) + 1) * 2 ^ (30 * n):=by
   have:=Nat.div_add_mod U (2 ^ (30 * n))
   have:=Nat.mod_lt U hp
   rw [Nat.add_mul,Nat.one_mul,Nat.mul_comm]
   omega
  have a2 : g * (U / 2 ^ (30 * n) + 1) ≤ V / 2 ^ (30 * n):=by rw [hg2]; exact Nat.div_mul_le_self _ _
  calc g * U ≤ g * ((U / 2 ^ (30 * n) + 1) * 2 ^ (30 * n)):=Nat.mul_le_mul_left _ a1
   _ = g * (U / 2 ^ (30 * n) + 1) * 2 ^ (30 * n):=by rw [Nat.mul_assoc]
   _ ≤ V / 2 ^ (30 * n) * 2 ^ (30 * n):=Nat.mul_le_mul_right _ a2
   _ ≤ V:=Nat.div_mul_le_self _ _
theorem guess_lt (V U n : Nat) (hV : V < 2 ^ (30 * (n + 1 + 1))) (hU1 : 2 ^ (30 * n) * 536870912 ≤ U) : V / 2 ^ (30 * n) < 1152921504606846976 ∧ 536870912 ≤ U / 2 ^ (30 * n) ∧ V / 2 ^ (30 * n) / (U / 2 ^ (30 * n) + 1) < 2147483648:=by
 have hp:=Nat.two_pow_pos (30 * n)
 have h1 : V / 2 ^ (30 * n) < 1152921504606846976:=by
  rw [Nat.div_lt_iff_lt_mul hp]
  rw [pow30k,pow30k] at hV
  rw [Nat.mul_comm]
  rw [Nat.mul_assoc] at hV
  exact hV
 have h2 : 536870912 ≤ U / 2 ^ (30 * n):=by
  rw [Nat.le_div_iff_mul_le hp,Nat.mul_comm]; exact hU1
 refine ⟨h1,h2,?_⟩
 rw [Nat.div_lt_iff_lt_mul (by omega)]
 omega
def DgAt (w : World) (g off m V : Nat) : Prop:=∀ i,i < m → w.cell? ⟨g,off + i,none⟩ = some (.int .i64 ((dg V i : Nat) : Int))
theorem DgAt.kept {w w' : World} {g off m V : Nat} (h : DgAt w g off m V) (k : Kept w w') : DgAt w' g off m V:=fun i hi => (k.below.cell (p:=⟨g,off + i,none⟩) (World.block_lt_of_cell? w _ (h i hi))).trans (h i hi)
theorem below_any (g off cap h cap2 n : Nat) (hn : 0 < n) (hn2 : n < 100000) (V U : Nat) (hV0 : V < 2 ^ (30 * (n + 1))) (hU0 : U < 2 ^ (30 * n)) (w : World) (RX0 : DgAt w g off (n + 1) V) (RU0 : DgAt w h 0 n U) : Calls Tryz.prog 164 #[.slice (some ⟨g,off,none⟩) (n + 1) cap,.slice (some ⟨h,0,none⟩) n cap2] w fun e w' => e = .returned (.bool (decide (V < U))) ∧ Kept w w':=by
 have RX : Hid (DgAt w g off (n + 1) V):=RX0
 have RU : Hid (DgAt w h 0 n U):=RU0
 have HV : Hid (V < 2 ^ (30 * (n + 1))):=hV0
 have HU : Hid (U < 2 ^ (30 * n)):=hU0
 have ct:=RX0 n (by omega)
 obtain ⟨d,hd⟩ : ∃ d,dg V n = d:=⟨_,rfl⟩
 have HD : Hid (dg V n = d):=hd
 rw [hd] at ct
 clear hd RX0 RU0 hV0 hU0
 obtain ⟨res,hres⟩ : ∃ res,decide (V < U) = res:=⟨_,rfl⟩
 have HRes : Hid (decide (V < U) = res):=hres
 rw [hres]
 clear hres
 by_cases hd0 : d = 0
 ·subst hd0
  have hz : V / 2 ^ (30 * n) = 0:=by rw [← dg_zero_hi V n HV.out]; exact HD.out
  have HZ : Hid (V / 2 ^ (30 * (n - 0)) = U / 2 ^ (30 * (n - 0))):=by
   show V / 2 ^ (30 * (n - 0)) = U / 2 ^ (30 * (n - 0))
   rw [Nat.sub_zero,hz,Nat.div_eq_of_lt HU.out]
  clear hz
  go_enter Tryz.func164,Tryz.ntmps164
  go_wp2
  go_loopw [16] (fun i wr => ∃ k : Nat,k ≤ n ∧ i = .int .i64 k ∧ Kept w wr ∧ V / 2 ^ (30 * (n - k)) = U / 2 ^ (30 * (n - k))) (fun i _ => n - (intOf i).toNat)
  case atStart => exact ⟨0,Nat.zero_le _,rfl,Kept.refl _,HZ.out⟩
  case round =>
   obtain ⟨k,hk,rfl,hKr,he⟩:=hrel
   have HE : Hid (V / 2 ^ (30 * (n - k)) = U / 2 ^ (30 * (n - k))):=he
   clear he
   by_cases hkn : k < n
   ·obtain ⟨n1,hn1⟩ : ∃ n1 : Nat,n = n1 + 1:=⟨n - 1,by omega⟩
    obtain ⟨j,hj⟩ : ∃ j : Nat,n1 = j + k:=⟨n1 - k,by omega⟩
    have e1 : (n : Int) - 1 = (n1 : Int):=by omega
    have e2 : (n1 : Int) - (k : Int) = (j : Int):=by omega
    have z1 : IntKind.i64.wrap (n1 : Int) = (n1 : Int):=by rw [wrap_i64]; omega
    have z2 : IntKind.i64.wrap (j : Int) = (j : Int):=by rw [wrap_i64]; omega
    have hjn : j < n:=by omega
    have hj1 : (j : Int) < (n : Int) + 1:=by omega
    have hj2 : (j : Int) < (n : Int):=by omega
    have HE2 : Hid (V / 2 ^ (30 * (j + 1)) = U / 2 ^ (30 * (j + 1))):=by
     have:=HE.out
     rw [show n - k = j + 1 by omega] at this
     exact this
    have HJ : Hid (n - (k + 1) = j):=by show n - (k + 1) = j; omega
    have cx:=(RX.out.kept hKr) j (by omega)
    have cu:=(RU.out.kept hKr) j (by omega)
    obtain ⟨xv,hx⟩ : ∃ xv,dg V j = xv:=⟨_,rfl⟩
    obtain ⟨uv,hu⟩ : ∃ uv,dg U j = uv:=⟨_,rfl⟩
    rw [hx] at cx
    rw [hu,Nat.zero_add] at cu
    have HX : Hid (dg V j = xv ∧ dg U j = uv):=⟨hx,hu⟩
    clear hx hu hn1 hj HE
    go_wp2_with fail
    refine wp_region_held_drew (S:=fun u => u.cell? ⟨g,off + j,none⟩ = some (.int .i64 (xv : Int)) ∧ u.cell? ⟨h,j,none⟩ = some (.int .i64 (uv : Int))) (by kernel_rfl) ⟨cx,cu⟩ (fun hHeld => ?_)
    refine tk (i:=0) (v:=?_) rfl ?_
    simp only [Act.put,zA,zB,zC,zD,zE,zF]
    refine tk (i:=1) (v:=?_) rfl ?_
    simp only [Act.put,zA,zB,zC,zD,zE,zF]
    refine tk (i:=2) (v:=?_) rfl ?_
    simp only [Act.put,zA,zB,zC,zD,zE,zF]
    refine tk (i:=3) (v:=?_) rfl ?_
    simp only [Act.put,zA,zB,zC,zD,zE,zF]
    refine tk (i:=4) (v:=?_) rfl ?_
    simp only [Act.put,zA,zB,zC,zD,zE,zF]
    refine tk (i:=5) (v:=?_) rfl ?_
    simp only [Act.put,zA,zB,zC,zD,zE,zF]
    refine tk (i:=6) (v:=?_) rfl ?_
    simp only [Act.put,zA,zB,zC,zD,zE,zF]
    refine tk (i:=7) (v:=?_) rfl ?_
    simp only [Act.put,zA,zB,zC,zD,zE,zF]
    refine tk (i:=8) (v:=?_) rfl ?_
    simp only [Act.put,zA,zB,zC,zD,zE,zF]
    refine tk (i:=9) (v:=?_) rfl ?_
    simp only [Act.put,zA,zB,zC,zD,zE,zF]
    refine tk (i:=10) (v:=?_) rfl ?_
    simp only [Act.put,zA,zB,zC,zD,zE,zF]
    refine tk (i:=11) (v:=?_) rfl ?_
    simp only [Act.put,zA,zB,zC,zD,zE,zF]
    refine tk (i:=12) (v:=?_) rfl ?_
    simp only [Act.put,zA,zB,zC,zD,zE,zF]
    refine tk (i:=13) (v:=?_) rfl ?_
    simp only [Act.put,zA,zB,zC,zD,zE,zF]
    refine wpAnyH_ready (rs:=[14]) (by kernel_rfl) (by simp) ?_
    refine AllReadyH.cons rfl (fun K hK9 => ?_) AllReadyH.nil
    go_simp
    go_wp2_with fail
    refine (compare_cz _ _ _).mono ?_
    rintro e w2 ⟨rfl,rfl⟩
    refine hK9.out _ _ ⟨cx,cu⟩ (fun hHeld2 => ?_)
    clear hK9 K hHeld
    refine tk (i:=15) (v:=?_) rfl ?_
    simp only [Act.put,zA,zB,zC,zD,zE,zF]
    refine wpAnyH_done (by kernel_rfl) ?_ _
    clear hHeld2
    rcases Nat.lt_trichotomy xv uv with hl | hl | hl
    ·rw [cz_lt (show (xv : Int) < (uv : Int) by omega)]
     have hr : res = true:=by rw [← HRes.out]; exact decide_eq_true (bel_lt V U j HE2.out (by rw [HX.out.1,HX.out.2]; exact hl))
     subst hr
     go_wp2
     go_ret
     exact ⟨rfl,hKr.drew⟩
    ·rw [cz_eq (show (xv : Int) = (uv : Int) by omega)]
     go_wp2
     go_roundw
     case rel => exact ⟨k + 1,by omega,by go_num,hKr.drew,by rw [HJ.out]; exact bel_eq V U j HE2.out (by rw [HX.out.1,HX.out.2]; exact hl)⟩
     case measure => simp [intOf]; omega
    ·rw [cz_gt (show (uv : Int) < (xv : Int) by omega)]
     have hr : res = false:=by
      rw [← HRes.out]
      have:=bel_lt U V j HE2.out.symm (by rw [HX.out.1,HX.out.2]; exact hl)
      exact decide_eq_false (by omega)
     subst hr
     go_wp2
     go_ret
     exact ⟨rfl,hKr.drew⟩
   ·obtain rfl : k = n:=by omega
    have hE:=HE.out
    rw [Nat.sub_self,Nat.mul_zero,Nat.pow_zero,Nat.div_one,Nat.div_one] at hE
    have hr : res = false:=by rw [← HRes.out]; exact decide_eq_false (by omega)
    subst hr
    go_wp2
    go_ret
    exact ⟨rfl,hKr⟩
 ·have hb : ((d : Int) != 0) = true:=by simpa [bne_iff_ne] using (show ¬ (d : Int) = 0 by omega)
  have hb2 : ((d : Int) == 0) = false:=by rw [beq_eq_false_iff_ne]; omega
  have hge : ¬ V < U:=by
   intro hlt
   have:=Nat.div_le_div_right (c:=2 ^ (30 * n)) (Nat.le_of_lt hlt)
   rw [← dg_zero_hi V n HV.out,HD.out,Nat.div_eq_of_lt HU.out] at this
   omega
  have hr : res = false:=by rw [← HRes.out]; exact decide_eq_false hge
  subst hr
  clear hge
  go_enter Tryz.func164,Tryz.ntmps164
  go_wp2
  go_ret
  exact ⟨rfl,Kept.refl _⟩
end Go.Proofs.YtnniljhdcplkgaaGreatDoor
