/- exact.Root of any valid number that is not below 0. The walks of exact's rootOfQuotient and RootQuot,over what they call. -/
import Derived.Test.YtelbefihigkhjaaGreatDoorWa25
import Derived.Test.YtelbefihigkhjaaGreatDoorWa40
import Derived.Test.YtelbefihigkhjaaGreatDoorWa42
import Derived.Test.YtelbefihigkhjaaGreatDoorWa24
import Derived.Laws.Shifts
namespace Go.Proofs.YtelbefihigkhjaaGreatDoor
open Go.ChangeShapes Go.WideShapes Go.ChangeAt Go.RowKit
set_option maxHeartbeats 16000000
set_option maxRecDepth 100000
set_option linter.unusedVariables false
set_option linter.unusedSimpArgs false
theorem flo_bounds (v B : Nat) (t : Int) (h1 : 2 ^ (B - 1) ≤ v) (h2 : v < 2 ^ B) (hB : 0 < B) (ht : 0 ≤ (B : Int) - 1 + t) : 2 ^ ((B : Int) - 1 + t).toNat ≤ flo v t ∧ flo v t < 2 ^ ((B : Int) + t).toNat:=by
 unfold flo
 split
 ·rw [show ((B : Int) - 1 + t).toNat = (B - 1) + t.toNat by omega,show ((B : Int) + t).toNat = B + t.toNat by omega,Nat.pow_add,Nat.pow_add]
  exact ⟨Nat.mul_le_mul_right _ h1,Nat.mul_lt_mul_of_pos_right h2 (Nat.two_pow_pos _)⟩
 ·constructor
  ·rw [Nat.le_div_iff_mul_le (Nat.two_pow_pos _),← Nat.pow_add]
   exact Nat.le_trans (Nat.pow_le_pow_right (by decide) (by omega)) h1
  ·rw [Nat.div_lt_iff_lt_mul (Nat.two_pow_pos _),← Nat.pow_add]
   exact Nat.lt_of_lt_of_le h2 (Nat.pow_le_pow_right (by decide) (by omega))
def rfst (r : Nm) : Int:=r.exp + (bl (nv r.mag) : Int) - 1 - (r.exp + (bl (nv r.mag) : Int) - 1) % 2
def rlast (r : Nm) : Int:=rfst r - 110
structure Rtl (r : Nm) (h l : Nat) (rs : Bool) : Prop where
 rt : Rtz (flo (nv r.mag) (r.exp - rlast r)) h l
 low : 2 ^ (56 - 1) ≤ h
 high : h < 2 ^ 56
 rs : rs = (decide (l ≠ 0) || decide (r.exp < rlast r))
 even : rlast r % 2 = 0
theorem rtz_ex (A : Nat) : ∃ h l,Rtz A h l:=by
 induction A using Nat.strongRecOn with
 | ind A ih =>
  by_cases h0 : A = 0
  ·subst h0; exact ⟨0,0,Rtz.zero⟩
  ·obtain ⟨h,l,hR⟩:=ih (A / 4) (by omega)
   obtain ⟨s1,s2⟩:=hR.step A rfl
   by_cases hh : 4 * h + 1 ≤ 4 * l + A % 4
   ·exact ⟨_,_,s1 hh⟩
   ·exact ⟨_,_,s2 hh⟩
theorem rtz_uniq {A h l h' l' : Nat} (a : Rtz A h l) (b : Rtz A h' l') : h = h' ∧ l = l':=by
 obtain ⟨a1,a2⟩:=a.lt
 obtain ⟨b1,b2⟩:=b.lt
 have c1:=sq_lt (Nat.lt_of_le_of_lt a1 b2)
 have c2:=sq_lt (Nat.lt_of_le_of_lt b1 a2)
 have e : h = h':=by omega
 subst e
 have:=a.eq
 have:=b.eq
 exact ⟨rfl,by omega⟩
theorem rtl_of (r : Nm) (hv : vld r = true) (hne : r.mag ≠ []) : ∃ h l,Rtl r h l (decide (l ≠ 0) || decide (r.exp < rlast r)):=by
 have h0:=nv_ne r hv hne
 obtain ⟨b1,b2,b3⟩:=bl_pos (nv r.mag) h0
 obtain ⟨h,l,hR⟩:=rtz_ex (flo (nv r.mag) (r.exp - rlast r))
 obtain ⟨f,hf⟩ : ∃ f,rlast r = f - 110:=⟨rfst r,rfl⟩
 have hf2:=hf
 unfold rlast rfst at hf2
 rw [hf] at hR
 have hA:=flo_bounds (nv r.mag) (bl (nv r.mag)) (r.exp - (f - 110)) b1 b2 b3 (by omega)
 obtain ⟨q1,q2⟩:=hR.lt
 have hlow : 2 ^ 55 * 2 ^ 55 < (h + 1) * (h + 1):=by
  rw [← Nat.pow_add]
  refine Nat.lt_of_le_of_lt ?_ q2
  exact Nat.le_trans (Nat.pow_le_pow_right (by decide) (by omega)) hA.1
 have hhigh : h * h < 2 ^ 56 * 2 ^ 56:=by
  rw [← Nat.pow_add]
  refine Nat.lt_of_le_of_lt q1 (Nat.lt_of_lt_of_le hA.2 ?_)
  exact Nat.pow_le_pow_right (by decide) (by omega)
 have g1:=sq_lt hlow
 have g2:=sq_lt hhigh
 exact ⟨h,l,⟨by rw [hf]; exact hR,by rw [show 56 - 1 = 55 by rfl]; omega,g2,rfl,by omega⟩⟩
theorem root_any (r : Nm) (hv : vld r = true) (hne : r.mag ≠ []) (h l : Nat) (rs : Bool) (H : Rtl r h l rs) (ao : Option Addr) (c : Nat) (w : World) (hS : Sl w (.slice ao r.mag.length c) r.mag) : Calls Tryz.prog 233 #[.agg #[.bool r.neg,.slice ao r.mag.length c,.int .i64 r.exp]] w fun e w' => e = .returned (.agg #[.bool false,.int .i64 (h : Int),.int .i64 (rlast r / 2),.bool rs]) ∧ Kept w w':=by
 obtain ⟨p1,p2,p3,p4,p5,p6⟩:=vld_some r.neg r.mag r.exp hne hv
 have h0:=nv_ne r hv hne
 have hbl:=bl_le _ _ (nv_lt r.mag p2)
 obtain ⟨b1,b2,b3⟩:=bl_pos (nv r.mag) h0
 obtain ⟨f,hf⟩ : ∃ f,rfst r = f:=⟨_,rfl⟩
 have hf2:=hf
 unfold rfst at hf2
 have hla : rlast r = f - 110:=by unfold rlast; rw [hf]
 have hpos:=List.length_pos_iff.2 hne
 have HV : Hid (flo (nv r.mag) (r.exp - f - 2) = 0):=by
  show flo (nv r.mag) (r.exp - f - 2) = 0
  unfold flo
  rw [if_neg (by omega)]
  exact Nat.div_eq_of_lt (Nat.lt_of_lt_of_le b2 (Nat.pow_le_pow_right (by decide) (by omega)))
 refine (root_walk r.neg ao r.mag.length c hpos r.exp (r.exp + (bl (nv r.mag) : Int)) f (nv r.mag) p5 p6 (by omega) (by omega) (by rw [andNot_1 _ (by omega) (by omega)]; omega) (by omega) (by omega) w HV (fun u k => top_any r.neg r.mag ⟨p2,fun _ => p3⟩ (by omega) ao c r.exp p5 p6 u (hS.kept k)) (fun u p k g1 g2 => piece_any r.mag p2 _ p g1 g2 u (hS.kept k))).mono ?_
 rintro e w' ⟨h',l',rfl,hR,hk⟩
 rw [← hla] at hR
 obtain ⟨rfl,rfl⟩:=rtz_uniq H.rt hR
 have he:=H.even
 rw [hla] at he
 have : (f - 110).tdiv 2 = (f - 110) / 2:=Int.tdiv_eq_ediv_of_dvd (by omega)
 rw [this,← hla,← H.rs]
 exact ⟨rfl,hk⟩
end Go.Proofs.YtelbefihigkhjaaGreatDoor

namespace Go.Proofs.YtelbefihigkhjaaGreatDoor
open Go.ChangeShapes Go.WideShapes Go.ChangeAt Go.RowKit
set_option maxHeartbeats 16000000
set_option maxRecDepth 100000
set_option linter.unusedVariables false
set_option linter.unusedSimpArgs false
theorem New.formT {w0 w : World} {v : Value} {x : Nm} (h : New w0 w v x) : ∃ ao c,v = .agg #[.bool x.neg,.slice ao x.mag.length c,.int .i64 x.exp] ∧ Sl w (.slice ao x.mag.length c) x.mag:=by
 rcases h with ⟨rfl,rfl⟩ | ⟨g,cap,rfl,hg,ho,hne⟩
 ·exact ⟨none,0,rfl,⟨none,0,rfl,Nat.le_refl _,by simp [maxLen],fun h => absurd rfl h⟩⟩
 ·exact ⟨_,_,rfl,ho.sl⟩
theorem mask_1 (s : Int) : bits .and .i64 s 1 = s % 2:=by
 have e : (BitVec.ofInt 64 1 : BitVec 64).toNat = 2 ^ 1 - 1:=by decide
 have h:=ofInt_toNat s
 rw [bits_and,BitVec.toNat_and,e,Nat.and_two_pow_sub_one_eq_mod,wrap_i64]
 omega
theorem rootq_walk (n1 n2 : Bool) (a b : Option Addr) (l1 c1 l2 c2 : Nat) (hl1 : 0 < l1) (x1 x2 ex e1 e2 : Int) (hex : -3000000 ≤ ex ∧ ex ≤ 3000000) (he1 : e1 = ex % 2) (he2 : e2 = ex / 2) (r1 r2 : Bool) (LL : List Int) (hL5 : LL.length = 5) (hLd : Dg LL) (r : Nm) (hr : frm false (nv LL) e1 = some r) (hd : Nat) (rx : Int) (hrx : -3000000 ≤ rx ∧ rx ≤ 3000000) (w : World) (hT : Tab w)
  (Kd : Hid (∀ u,Kept w u → Calls Tryz.prog 326 #[.agg #[.bool n1,.slice a l1 c1,.int .i64 x1],.agg #[.bool n2,.slice b l2 c2,.int .i64 x2],.int .i64 4] u fun e w' => ∃ h,e = .returned (.tuple #[.slice (some ⟨h,0,none⟩) 5 5,.int .i64 ex,.bool r1]) ∧ u.heap.size ≤ h ∧ Own w' h 5 LL ∧ Kept u w'))
  (Kr : Hid (∀ ao c u,Sl u (.slice ao r.mag.length c) r.mag → Calls Tryz.prog 233 #[.agg #[.bool r.neg,.slice ao r.mag.length c,.int .i64 r.exp]] u fun e w' => e = .returned (.agg #[.bool false,.int .i64 (hd : Int),.int .i64 rx,.bool r2]) ∧ Kept u w')) :
  Calls Tryz.prog 302 #[.agg #[.bool n1,.slice a l1 c1,.int .i64 x1],.agg #[.bool n2,.slice b l2 c2,.int .i64 x2]] w fun e w' => e = .returned (.agg #[.bool false,.int .i64 (hd : Int),.int .i64 (rx + e2),.bool (r2 || r1)]) ∧ Kept w w':=by
 have hK : Kept w (((w.alloc (.cells #[.bool n1,.slice a l1 c1,.int .i64 x1] 78)).alloc (.cells #[.bool n2,.slice b l2 c2,.int .i64 x2] 78)).alloc (.cells #[.bool false,.int .i64 0,.int .i64 0,.bool false] 280)):=(((Kept.refl w).alloc _ _).alloc _ _).alloc _ _
 have hm : bits .and .i64 ex 1 = e1:=by rw [mask_1,he1]
 have hsh : Op.shift .shr .i64 ex .u64 1 = pure (.int .i64 e2):=by
  rw [shift_shr_any .i64 .u64 ex 1 (by decide),he2]
  rfl
 have zr : IntKind.i64.wrap (rx + e2) = rx + e2:=by rw [wrap_i64]; omega
 have HR : Hid (frm false (nv LL) e1 = some r):=hr
 have HL5 : Hid (LL.length = 5):=hL5
 clear he1 he2 hr hL5
 have hl0 : ((l1 : Int) == 0) = false:=by rw [beq_eq_false_iff_ne]; omega
 have hl1' : ¬ l1 = 0:=by omega
 obtain ⟨W0,hW0⟩ : ∃ W0,((w.alloc (.cells #[.bool n1,.slice a l1 c1,.int .i64 x1] 78)).alloc (.cells #[.bool n2,.slice b l2 c2,.int .i64 x2] 78)).alloc (.cells #[.bool false,.int .i64 0,.int .i64 0,.bool false] 280) = W0:=⟨_,rfl⟩
 have B1 : Hid (∀ u,Kept W0 u → (u.cell? ⟨w.heap.size + 1 + 1,0,none⟩ = some (.bool false) ∧ u.cell? ⟨w.heap.size + 1 + 1,1,none⟩ = some (.int .i64 0) ∧ u.cell? ⟨w.heap.size + 1 + 1,2,none⟩ = some (.int .i64 0) ∧ u.cell? ⟨w.heap.size + 1 + 1,3,none⟩ = some (.bool false)) ∧ ∀ o,u.frozen? ⟨w.heap.size + 1 + 1,o,none⟩ = false):=fun u k => by
  rw [← hW0] at k
  exact ⟨⟨(k.below.cell (p:=⟨w.heap.size + 1 + 1,0,none⟩) (by simp)).trans (by simp [go_sem]),(k.below.cell (p:=⟨w.heap.size + 1 + 1,1,none⟩) (by simp)).trans (by simp [go_sem]),(k.below.cell (p:=⟨w.heap.size + 1 + 1,2,none⟩) (by simp)).trans (by simp [go_sem]),(k.below.cell (p:=⟨w.heap.size + 1 + 1,3,none⟩) (by simp)).trans (by simp [go_sem])⟩,fun o => (k.frozen _).trans (by simp [go_sem])⟩
 have B2 : Hid (∀ u,Kept W0 u → (u.cell? ⟨w.heap.size,0,none⟩ = some (.bool n1) ∧ u.cell? ⟨w.heap.size,1,none⟩ = some (.slice a l1 c1) ∧ u.cell? ⟨w.heap.size,2,none⟩ = some (.int .i64 x1)) ∧ (u.cell? ⟨w.heap.size + 1,0,none⟩ = some (.bool n2) ∧ u.cell? ⟨w.heap.size + 1,1,none⟩ = some (.slice b l2 c2) ∧ u.cell? ⟨w.heap.size + 1,2,none⟩ = some (.int .i64 x2))):=fun u k => by
  rw [← hW0] at k
  exact ⟨⟨(k.below.cell (p:=⟨w.heap.size,0,none⟩) (by simp <;> omega)).trans (by simp [go_sem]),(k.below.cell (p:=⟨w.heap.size,1,none⟩) (by simp <;> omega)).trans (by simp [go_sem]),(k.below.cell (p:=⟨w.heap.size,2,none⟩) (by simp <;> omega)).trans (by simp [go_sem])⟩,⟨(k.below.cell (p:=⟨w.heap.size + 1,0,none⟩) (by simp <;> omega)).trans (by simp [go_sem]),(k.below.cell (p:=⟨w.heap.size + 1,1,none⟩) (by simp <;> omega)).trans (by simp [go_sem]),(k.below.cell (p:=⟨w.heap.size + 1,2,none⟩) (by simp <;> omega)).trans (by simp [go_sem])⟩⟩
 obtain ⟨⟨p0,p1,p2⟩,⟨q0,q1,q2⟩⟩:=B2.out _ (Kept.refl _)
 rw [hW0] at hK
 go_enter Tryz.func302,Tryz.ntmps302
 go_wp2_with fail
 clear hW0 p0 p1 p2 q0 q1 q2
 refine (Kd.out _ hK).mono ?_
 rintro e w1 ⟨h,rfl,hh,ho,k1⟩
 have k1' : Kept w w1:=hK.trans k1
 have K1 : Hid (Kept W0 w1):=k1
 have HO : Hid (Own w1 h 5 LL):=ho
 have HH : Hid (W0.heap.size ≤ h):=hh
 clear k1 ho hh
 go_wp2_with fail
 have hF:=form_ok false LL hLd (by rw [HL5.out]; decide) h 5 e1 W0 w1 K1.out HH.out HO.out (hT.kept k1') r HR.out
 rw [HL5.out] at hF
 refine hF.mono ?_
 rintro e w2 ⟨⟨v,rfl,hN⟩,k2⟩
 obtain ⟨ao,c,rfl,hS⟩:=hN.formT
 clear hF hN
 have HS : Hid (Sl w2 (.slice ao r.mag.length c) r.mag):=hS
 have K2 : Hid (Kept W0 w2):=k2
 clear hS k2
 go_wp2_with fail
 refine (Kr.out ao c w2 HS.out).mono ?_
 rintro e w3 ⟨rfl,k3⟩
 have K3 : Hid (Kept W0 w3):=K2.out.trans k3
 clear k3
 obtain ⟨X,hX⟩ : ∃ X,X = w3.alloc (.cells #[.bool false,.int .i64 (hd : Int),.int .i64 (rx + e2),.bool (r2 || r1)] 280):=⟨_,rfl⟩
 have kX : Kept W0 X:=by rw [hX]; exact K3.out.alloc _ _
 have x0 : X.cell? ⟨w3.heap.size,0,none⟩ = some (.bool false):=by rw [hX]; simp [go_sem]
 have x1 : X.cell? ⟨w3.heap.size,1,none⟩ = some (.int .i64 (hd : Int)):=by rw [hX]; simp [go_sem]
 have x2 : X.cell? ⟨w3.heap.size,2,none⟩ = some (.int .i64 (rx + e2)):=by rw [hX]; simp [go_sem]
 have x3 : X.cell? ⟨w3.heap.size,3,none⟩ = some (.bool (r2 || r1)):=by rw [hX]; simp [go_sem]
 have HX : Hid (X = w3.alloc (.cells #[.bool false,.int .i64 (hd : Int),.int .i64 (rx + e2),.bool (r2 || r1)] 280)):=hX
 have X0:=(show Hid (X.cell? ⟨w3.heap.size,0,none⟩ = some (.bool false) ∧ X.cell? ⟨w3.heap.size,1,none⟩ = some (.int .i64 (hd : Int)) ∧ X.cell? ⟨w3.heap.size,2,none⟩ = some (.int .i64 (rx + e2)) ∧ X.cell? ⟨w3.heap.size,3,none⟩ = some (.bool (r2 || r1))) from ⟨x0,x1,x2,x3⟩)
 have HQ : Hid (Kept W0 X):=kX
 clear hX kX x0 x1 x2 x3
 have hK2 : Hid (Kept w W0):=hK
 clear hK
 cases r2
 all_goals
  go_upto_region 7 with fail
  have hX':=HX.out
  have hX0:=X0.out
  simp only [Bool.false_or,Bool.true_or] at hX' hX0
  rw [← hX']
  clear hX'
  obtain ⟨x0,x1,x2,x3⟩:=hX0
  obtain ⟨⟨o0,o1,o2,o3⟩,oF⟩:=B1.out _ HQ.out
  go_wp2_with fail
  refine bodyPost_ret (v:=.agg #[.bool false,.int .i64 (hd : Int),.int .i64 (rx + e2),.bool _]) (by simp [results,Tryz.results302,go_sem,o0,o1,o2,o3]; try rfl) rfl ⟨rfl,?_⟩
  exact (((hK2.out.trans HQ.out).setCell (by simp <;> omega) _ |>.setCell (by simp <;> omega) _ |>.setCell (by simp <;> omega) _ |>.setCell (by simp <;> omega) _))
end Go.Proofs.YtelbefihigkhjaaGreatDoor
