/- exact.Root of any valid number that is not below 0. exact's divided,of any two valid numbers: how its digits and the rest hang together with the numbers. exact's quotient over divided: the walk. -/
import Derived.Test.YtnniljhdcplkgaaGreatDoorWr32
import Derived.Test.YtnniljhdcplkgaaGreatDoorWr22
import Derived.Test.YtnniljhdcplkgaaGreatDoorWr26
import Derived.Test.YtnniljhdcplkgaaGreatDoorWr25
namespace Go.Proofs.YtnniljhdcplkgaaGreatDoor
open Go.ChangeShapes Go.WideShapes Go.ChangeAt Go.RowKit
set_option maxHeartbeats 16000000
set_option maxRecDepth 100000
set_option linter.unusedVariables false
set_option linter.unusedSimpArgs false
theorem flo_bounds (v B : Nat) (t : Int) (h1 : 2 ^ (B - 1) ≤ v) (h2 : v < 2 ^ B) (hB : 0 < B) (ht : 0 ≤ (B : Int) - 1 + t) : 2 ^ ((B : Int) - 1 + t).toNat ≤ flo v t ∧ flo v t < 2 ^ ((B : Int) + t).toNat:=by
 unfold flo
 split
 ·rw [show ((B : Int) - 1 + t).toNat = (B - 1) + t.toNat by omega,show ((B : Int) + t).toNat = B + t.toNat by omega,Nat.pow_add,Nat.pow_add]
  exact ⟨Nat.mul_le_mul_right _ h1,Nat.mul_lt_mul_of_pos_right h2 (Nat.two_pow_pos _)⟩
 ·constructor
  ·rw [Nat.le_div_iff_mul_le (Nat.two_pow_pos _),← Nat.pow_add]
   exact Nat.le_trans (Nat.pow_le_pow_right (by decide) (by omega)) h1
  ·rw [Nat.div_lt_iff_lt_mul (Nat.two_pow_pos _),← Nat.pow_add]
   exact Nat.lt_of_lt_of_le h2 (Nat.pow_le_pow_right (by decide) (by omega))
def rfst (r : Nm) : Int:=r.exp + (bl (nv r.mag) : Int) - 1 - (r.exp + (bl (nv r.mag) : Int) - 1) % 2
def rlast (r : Nm) : Int:=rfst r - 110
structure Rtl (r : Nm) (h l : Nat) (rs : Bool) : Prop where
 rt : Rtz (flo (nv r.mag) (r.exp - rlast r)) h l
 low : 2 ^ (56 - 1) ≤ h
 high : h < 2 ^ 56
 rs : rs = (decide (l ≠ 0) || decide (r.exp < rlast r))
 even : rlast r % 2 = 0
theorem rtz_ex (A : Nat) : ∃ h l,Rtz A h l:=by
 induction A using Nat.strongRecOn with
 | ind A ih =>
  by_cases h0 : A = 0
  ·subst h0; exact ⟨0,0,Rtz.zero⟩
  ·obtain ⟨h,l,hR⟩:=ih (A / 4) (by omega)
   obtain ⟨s1,s2⟩:=hR.step A rfl
   by_cases hh : 4 * h + 1 ≤ 4 * l + A % 4
   ·exact ⟨_,_,s1 hh⟩
   ·exact ⟨_,_,s2 hh⟩
theorem rtz_uniq {A h l h' l' : Nat} (a : Rtz A h l) (b : Rtz A h' l') : h = h' ∧ l = l':=by
 obtain ⟨a1,a2⟩:=a.lt
 obtain ⟨b1,b2⟩:=b.lt
 have c1:=sq_lt (Nat.lt_of_le_of_lt a1 b2)
 have c2:=sq_lt (Nat.lt_of_le_of_lt b1 a2)
 have e : h = h':=by omega
 subst e
 have:=a.eq
 have:=b.eq
 exact ⟨rfl,by omega⟩
theorem rtl_of (r : Nm) (hv : vld r = true) (hne : r.mag ≠ []) : ∃ h l,Rtl r h l (decide (l ≠ 0) || decide (r.exp < rlast r)):=by
 have h0:=nv_ne r hv hne
 obtain ⟨b1,b2,b3⟩:=bl_pos (nv r.mag) h0
 obtain ⟨h,l,hR⟩:=rtz_ex (flo (nv r.mag) (r.exp - rlast r))
 obtain ⟨f,hf⟩ : ∃ f,rlast r = f - 110:=⟨rfst r,rfl⟩
 have hf2:=hf
 unfold rlast rfst at hf2
 rw [hf] at hR
 have hA:=flo_bounds (nv r.mag) (bl (nv r.mag)) (r.exp - (f - 110)) b1 b2 b3 (by omega)
 obtain ⟨q1,q2⟩:=hR.lt
 have hlow : 2 ^ 55 * 2 ^ 55 < (h + 1) * (h + 1):=by
  rw [← Nat.pow_add]
  refine Nat.lt_of_le_of_lt ?_ q2
  exact Nat.le_trans (Nat.pow_le_pow_right (by decide) (by omega)) hA.1
 have hhigh : h * h < 2 ^ 56 * 2 ^ 56:=by
  rw [← Nat.pow_add]
  refine Nat.lt_of_le_of_lt q1 (Nat.lt_of_lt_of_le hA.2 ?_)
  exact Nat.pow_le_pow_right (by decide) (by omega)
 have g1:=sq_lt hlow
 have g2:=sq_lt hhigh
 exact ⟨h,l,⟨by rw [hf]; exact hR,by rw [show 56 - 1 = 55 by rfl]; omega,g2,rfl,by omega⟩⟩
theorem root_any (r : Nm) (hv : vld r = true) (hne : r.mag ≠ []) (h l : Nat) (rs : Bool) (H : Rtl r h l rs) (ao : Option Addr) (c : Nat) (w : World) (hS : Sl w (.slice ao r.mag.length c) r.mag) : Calls Tryz.prog 158 #[.agg #[.bool r.neg,.slice ao r.mag.length c,.int .i64 r.exp]] w fun e w' => e = .returned (.agg #[.bool false,.int .i64 (h : Int),.int .i64 (rlast r / 2),.bool rs]) ∧ Kept w w':=by
 obtain ⟨p1,p2,p3,p4,p5,p6⟩:=vld_some r.neg r.mag r.exp hne hv
 have h0:=nv_ne r hv hne
 have hbl:=bl_le _ _ (nv_lt r.mag p2)
 obtain ⟨b1,b2,b3⟩:=bl_pos (nv r.mag) h0
 obtain ⟨f,hf⟩ : ∃ f,rfst r = f:=⟨_,rfl⟩
 have hf2:=hf
 unfold rfst at hf2
 have hla : rlast r = f - 110:=by unfold rlast; rw [hf]
 have hpos:=List.length_pos_iff.2 hne
 have HV : Hid (flo (nv r.mag) (r.exp - f - 2) = 0):=by
  show flo (nv r.mag) (r.exp - f - 2) = 0
  unfold flo
  rw [if_neg (by omega)]
  exact Nat.div_eq_of_lt (Nat.lt_of_lt_of_le b2 (Nat.pow_le_pow_right (by decide) (by omega)))
 refine (root_walk r.neg ao r.mag.length c hpos r.exp (r.exp + (bl (nv r.mag) : Int)) f (nv r.mag) p5 p6 (by omega) (by omega) (by rw [andNot_1 _ (by omega) (by omega)]; omega) (by omega) (by omega) w HV (fun u k => top_any r.neg r.mag ⟨p2,fun _ => p3⟩ (by omega) ao c r.exp p5 p6 u (hS.kept k)) (fun u p k g1 g2 => piece_any r.mag p2 _ p g1 g2 u (hS.kept k))).mono ?_
 rintro e w' ⟨h',l',rfl,hR,hk⟩
 rw [← hla] at hR
 obtain ⟨rfl,rfl⟩:=rtz_uniq H.rt hR
 have he:=H.even
 rw [hla] at he
 have : (f - 110).tdiv 2 = (f - 110) / 2:=Int.tdiv_eq_ediv_of_dvd (by omega)
 rw [this,← hla,← H.rs]
 exact ⟨rfl,hk⟩
end Go.Proofs.YtnniljhdcplkgaaGreatDoor

namespace Go.Proofs.YtnniljhdcplkgaaGreatDoor
open Go.ChangeShapes Go.WideShapes Go.ChangeAt Go.RowKit
set_option maxHeartbeats 16000000
set_option maxRecDepth 100000
set_option linter.unusedVariables false
set_option linter.unusedSimpArgs false
theorem pcz_dg (v : Nat) (t : Int) (i : Nat) : pcz v (-t + 30 * (i : Int)) = ((dg (flo v t) i : Nat) : Int):=by
 rw [pcz_flo]
 unfold dg
 rw [flo_div,show -(-t + 30 * (i : Int)) = t - ((30 * i : Nat) : Int) by omega]
theorem getD_range (n : Nat) (f : Nat → Int) (i : Nat) (hi : i < n) : ((List.range n).map f).getD i 0 = f i:=by
 rw [List.getD_eq_getElem?_getD,List.getElem?_map,List.getElem?_range hi]
 rfl
def qU (b : Nm) : Nat:=flo (nv b.mag) (30 * (b.mag.length : Int) - (bl (nv b.mag) : Int))
theorem qU_bounds (b : Nm) (hb : vld b = true) (hne : b.mag ≠ []) : 2 ^ (30 * b.mag.length - 1) ≤ qU b ∧ qU b < 2 ^ (30 * b.mag.length):=by
 obtain ⟨p1,p2,p3,p4,p5,p6⟩:=vld_some b.neg b.mag b.exp hne hb
 have h0:=nv_ne b hb hne
 have hbl:=bl_le _ _ (nv_lt b.mag p2)
 obtain ⟨b1,b2,b3⟩:=bl_pos (nv b.mag) h0
 have hl:=List.length_pos_iff.2 hne
 have:=flo_bounds (nv b.mag) (bl (nv b.mag)) (30 * (b.mag.length : Int) - (bl (nv b.mag) : Int)) b1 b2 b3 (by omega)
 rw [show ((bl (nv b.mag) : Int) - 1 + (30 * (b.mag.length : Int) - (bl (nv b.mag) : Int))).toNat = 30 * b.mag.length - 1 by omega,show ((bl (nv b.mag) : Int) + (30 * (b.mag.length : Int) - (bl (nv b.mag) : Int))).toNat = 30 * b.mag.length by omega] at this
 exact this
def dA (c : Nat) (a b : Nm) : Nat:=flo (nv a.mag) (30 * ((b.mag.length : Int) + (c : Int)) - (bl (nv a.mag) : Int))
def dlw (c : Nat) (a b : Nm) : Int:=(bl (nv a.mag) : Int) - (((b.mag.length : Int) + (c : Int)) * 30)
def dex (c : Nat) (a b : Nm) : Int:=a.exp - b.exp + (bl (nv a.mag) : Int) - (bl (nv b.mag) : Int) - (c : Int) * 30
def drs (c : Nat) (a b : Nm) : Bool:=decide (0 < dlw c a b) || decide (dA c a b % qU b ≠ 0)
def dV (c : Nat) (a b : Nm) : Nat:=dA c a b / qU b
theorem dA_bounds (c : Nat) (hc : 0 < c) (a b : Nm) (ha : vld a = true) (hne : a.mag ≠ []) : 2 ^ (30 * b.mag.length + (30 * c - 1)) ≤ dA c a b ∧ dA c a b < 2 ^ (30 * (b.mag.length + c)):=by
 have h0:=nv_ne a ha hne
 obtain ⟨b1,b2,b3⟩:=bl_pos (nv a.mag) h0
 have:=flo_bounds (nv a.mag) (bl (nv a.mag)) (30 * ((b.mag.length : Int) + (c : Int)) - (bl (nv a.mag) : Int)) b1 b2 b3 (by omega)
 rw [show ((bl (nv a.mag) : Int) - 1 + (30 * ((b.mag.length : Int) + (c : Int)) - (bl (nv a.mag) : Int))).toNat = 30 * b.mag.length + (30 * c - 1) by omega,show ((bl (nv a.mag) : Int) + (30 * ((b.mag.length : Int) + (c : Int)) - (bl (nv a.mag) : Int))).toNat = 30 * (b.mag.length + c) by omega] at this
 exact this
theorem dV_bounds (c : Nat) (hc : 0 < c) (a b : Nm) (ha : vld a = true) (hb : vld b = true) (h1 : a.mag ≠ []) (h2 : b.mag ≠ []) : 2 ^ (30 * c - 1) ≤ dV c a b ∧ dV c a b < 2 ^ (30 * c + 1):=by
 obtain ⟨u1,u2⟩:=qU_bounds b hb h2
 obtain ⟨a1,a2⟩:=dA_bounds c hc a b ha h1
 have hl:=List.length_pos_iff.2 h2
 have hU0 : 0 < qU b:=Nat.lt_of_lt_of_le (Nat.two_pow_pos _) u1
 unfold dV
 constructor
 ·rw [Nat.le_div_iff_mul_le hU0]
  refine Nat.le_trans (Nat.mul_le_mul_left _ (Nat.le_of_lt u2)) ?_
  rw [← Nat.pow_add,Nat.add_comm]
  exact a1
 ·rw [Nat.div_lt_iff_lt_mul hU0]
  refine Nat.lt_of_lt_of_le a2 (Nat.le_trans ?_ (Nat.mul_le_mul_left _ u1))
  rw [← Nat.pow_add]
  exact Nat.pow_le_pow_right (by decide) (by omega)
theorem divided_any (c : Nat) (hc : 0 < c) (hc8 : c ≤ 8) (a b : Nm) (ha : vld a = true) (hb : vld b = true) (h1 : a.mag ≠ []) (h2 : b.mag ≠ []) (a1 a2 : Option Addr) (c1 c2 : Nat) (w : World) (hs1 : Sl w (.slice a1 a.mag.length c1) a.mag) (hs2 : Sl w (.slice a2 b.mag.length c2) b.mag) : Calls Tryz.prog 129 #[.agg #[.bool a.neg,.slice a1 a.mag.length c1,.int .i64 a.exp],.agg #[.bool b.neg,.slice a2 b.mag.length c2,.int .i64 b.exp],.int .i64 (c : Int)] w fun e w' => ∃ h,e = .returned (.tuple #[.slice (some ⟨h,0,none⟩) (c + 1) (c + 1),.int .i64 (dex c a b),.bool (drs c a b)]) ∧ w.heap.size ≤ h ∧ Own w' h (c + 1) (dvl (dV c a b) c (c + 1)) ∧ Kept w w':=by
 obtain ⟨p1,p2,p3,p4,p5,p6⟩:=vld_some a.neg a.mag a.exp h1 ha
 obtain ⟨q1,q2,q3,q4,q5,q6⟩:=vld_some b.neg b.mag b.exp h2 hb
 have hl1:=List.length_pos_iff.2 h1
 have hl2:=List.length_pos_iff.2 h2
 have hb1:=bl_le _ _ (nv_lt a.mag p2)
 have hb2:=bl_le _ _ (nv_lt b.mag q2)
 obtain ⟨u1,u2⟩:=qU_bounds b hb h2
 obtain ⟨e1,e2⟩:=dA_bounds c hc a b ha h1
 refine divided_walk a.neg b.neg a1 a2 a.mag.length c1 b.mag.length c2 hl1 hl2 (by omega) c (c + 1) (b.mag.length + c) (b.mag.length + c + 1) hc8 rfl rfl rfl a.exp b.exp p5 p6 q5 q6 (bl (nv a.mag)) (bl (nv b.mag)) (by omega) (by omega) (dA c a b) (qU b) ((List.range (b.mag.length + c)).map fun i : Nat => pcz (nv a.mag) (dlw c a b + 30 * (i : Int))) (dlw c a b) (by unfold dlw; push_cast; rfl) (dex c a b) rfl w ?_ e2 ?_ (fun u k => length_any a.mag ⟨p2,fun _ => p3⟩ (by omega) _ u (hs1.kept k)) (fun u k => length_any b.mag ⟨q2,fun _ => q3⟩ (by omega) _ u (hs2.kept k)) (fun u k => ?_) (fun u k => ?_)
 ·refine ⟨by rw [List.length_map,List.length_range],fun i hi => ?_⟩
  rw [getD_range _ _ _ hi,show dlw c a b = -(30 * ((b.mag.length : Int) + (c : Int)) - (bl (nv a.mag) : Int)) by unfold dlw; omega]
  exact pcz_dg _ _ _
 ·refine ⟨?_,u2,?_⟩
  ·refine Nat.le_trans (Nat.le_of_eq ?_) u1
   rw [show (536870912 : Nat) = 2 ^ 29 by decide,← Nat.pow_add]
   congr 1
   omega
  ·rw [Nat.div_lt_iff_lt_mul (Nat.two_pow_pos _)]
   refine Nat.lt_of_lt_of_le e2 (Nat.le_trans ?_ (Nat.mul_le_mul_right _ u1))
   rw [← Nat.pow_add]
   exact Nat.pow_le_pow_right (by decide) (by omega)
 ·refine (pieces_any b.mag q2 _ b.mag.length (by omega) ((bl (nv b.mag) : Int) - (b.mag.length : Int) * 30) (by omega) u (hs2.kept k)).mono ?_
  rintro e w' ⟨rfl,ho,hk⟩
  refine ⟨rfl,fun i hi => ?_,hk⟩
  rw [Nat.zero_add,ho.cell i (by rw [List.length_map,List.length_range]; exact hi),getD_range _ _ _ hi,show (bl (nv b.mag) : Int) - (b.mag.length : Int) * 30 = -(30 * (b.mag.length : Int) - (bl (nv b.mag) : Int)) by omega,pcz_dg]
  rfl
 ·have hp : -10000000 < dlw c a b ∧ dlw c a b < 10000000:=by unfold dlw; omega
  exact pieces_any a.mag p2 (.slice a1 a.mag.length c1) (b.mag.length + c) (by omega) (dlw c a b) hp u (hs1.kept k)
/- the digits tell the number -/
theorem nv_dgs (V : Nat) : ∀ (m : Nat),V < 2 ^ (30 * m) → nv ((List.range m).map fun i => ((dg V i : Nat) : Int)) = V:=by
 intro m
 induction m generalizing V with
 | zero =>
  intro h
  simp only [Nat.mul_zero,Nat.pow_zero] at h
  have h0 : V = 0:=by omega
  subst h0
  rfl
 | succ m ih =>
  intro h
  rw [List.range_succ_eq_map,List.map_cons,List.map_map]
  have e : ((fun i => ((dg V i : Nat) : Int)) ∘ Nat.succ) = fun i => ((dg (V / 1073741824) i : Nat) : Int):=by
   funext i
   have:=dg_shift V 1 i
   rw [show 2 ^ (30 * 1) = 1073741824 by decide] at this
   simp only [Function.comp]
   rw [this,Nat.add_comm]
  rw [e]
  have h2 : V / 1073741824 < 2 ^ (30 * m):=by
   rw [Nat.div_lt_iff_lt_mul (by decide),← pow30k]
   exact h
  have:=ih (V / 1073741824) h2
  rw [nv,this]
  have hd : dg V 0 = V % 1073741824:=by unfold dg; rw [Nat.mul_zero,Nat.pow_zero,Nat.div_one]
  rw [hd]
  omega
theorem dvl_full (V c : Nat) : dvl V c (c + 1) = (List.range (c + 1)).map fun i => ((dg V i : Nat) : Int):=by
 unfold dvl
 refine List.map_congr_left (fun i hi => ?_)
 rw [if_pos (by omega)]
theorem dvl_dg (V c k : Nat) : Dg (dvl V c k):=by
 intro d hd
 unfold dvl at hd
 obtain ⟨i,-,rfl⟩:=List.mem_map.1 hd
 split
 ·have:=dg_lt V i
  omega
 ·omega
end Go.Proofs.YtnniljhdcplkgaaGreatDoor

namespace Go.Proofs.YtnniljhdcplkgaaGreatDoor
open Go.ChangeShapes Go.WideShapes Go.ChangeAt Go.RowKit
set_option maxHeartbeats 16000000
set_option maxRecDepth 100000
set_option linter.unusedVariables false
set_option linter.unusedSimpArgs false
theorem quot_walk (n1 n2 nb : Bool) (hnb : nb = (n1 != n2)) (a b : Option Addr) (l1 c1 l2 c2 : Nat) (hl1 : 0 < l1) (x1 x2 ex : Int) (rs : Bool) (Q0 Q1 Q2 G0 H1 G1 H2 : Nat)
  (s1 : IntKind.i64.wrap ((Q0 : Int) * 1073741824) = (G0 : Int)) (s2 : bits .or .i64 (G0 : Int) (Q1 : Int) = (H1 : Int)) (s3 : IntKind.i64.wrap ((H1 : Int) * 1073741824) = (G1 : Int)) (s4 : bits .or .i64 (G1 : Int) (Q2 : Int) = (H2 : Int)) (zz : bits .or .i64 0 (Q0 : Int) = (Q0 : Int)) (w : World)
  (Kd : Hid (∀ u,Kept w u → Calls Tryz.prog 129 #[.agg #[.bool n1,.slice a l1 c1,.int .i64 x1],.agg #[.bool n2,.slice b l2 c2,.int .i64 x2],.int .i64 2] u fun e w' => ∃ h,e = .returned (.tuple #[.slice (some ⟨h,0,none⟩) 3 3,.int .i64 ex,.bool rs]) ∧ w'.cell? ⟨h,0,none⟩ = some (.int .i64 (Q2 : Int)) ∧ w'.cell? ⟨h,1,none⟩ = some (.int .i64 (Q1 : Int)) ∧ w'.cell? ⟨h,2,none⟩ = some (.int .i64 (Q0 : Int)) ∧ Kept u w')) :
  Calls Tryz.prog 101 #[.agg #[.bool n1,.slice a l1 c1,.int .i64 x1],.agg #[.bool n2,.slice b l2 c2,.int .i64 x2]] w fun e w' => e = .returned (.agg #[.bool nb,.int .i64 (H2 : Int),.int .i64 ex,.bool rs]) ∧ Kept w w':=by
 have hK : Kept w (((w.alloc (.cells #[.bool n1,.slice a l1 c1,.int .i64 x1] 43)).alloc (.cells #[.bool n2,.slice b l2 c2,.int .i64 x2] 43)).alloc (.cells #[.bool false,.int .i64 0,.int .i64 0,.bool false] 117)):=(((Kept.refl w).alloc _ _).alloc _ _).alloc _ _
 have hl0 : ((l1 : Int) == 0) = false:=by rw [beq_eq_false_iff_ne]; omega
 have hl1' : ¬ l1 = 0:=by omega
 obtain ⟨W0,hW0⟩ : ∃ W0,((w.alloc (.cells #[.bool n1,.slice a l1 c1,.int .i64 x1] 43)).alloc (.cells #[.bool n2,.slice b l2 c2,.int .i64 x2] 43)).alloc (.cells #[.bool false,.int .i64 0,.int .i64 0,.bool false] 117) = W0:=⟨_,rfl⟩
 have B1 : Hid (∀ u,Kept W0 u → (u.cell? ⟨w.heap.size + 1 + 1,0,none⟩ = some (.bool false) ∧ u.cell? ⟨w.heap.size + 1 + 1,1,none⟩ = some (.int .i64 0) ∧ u.cell? ⟨w.heap.size + 1 + 1,2,none⟩ = some (.int .i64 0) ∧ u.cell? ⟨w.heap.size + 1 + 1,3,none⟩ = some (.bool false)) ∧ ∀ o,u.frozen? ⟨w.heap.size + 1 + 1,o,none⟩ = false):=fun u k => by
  rw [← hW0] at k
  exact ⟨⟨(k.below.cell (p:=⟨w.heap.size + 1 + 1,0,none⟩) (by simp)).trans (by simp [go_sem]),(k.below.cell (p:=⟨w.heap.size + 1 + 1,1,none⟩) (by simp)).trans (by simp [go_sem]),(k.below.cell (p:=⟨w.heap.size + 1 + 1,2,none⟩) (by simp)).trans (by simp [go_sem]),(k.below.cell (p:=⟨w.heap.size + 1 + 1,3,none⟩) (by simp)).trans (by simp [go_sem])⟩,fun o => (k.frozen _).trans (by simp [go_sem])⟩
 have B2 : Hid (∀ u,Kept W0 u → (u.cell? ⟨w.heap.size,0,none⟩ = some (.bool n1) ∧ u.cell? ⟨w.heap.size,1,none⟩ = some (.slice a l1 c1) ∧ u.cell? ⟨w.heap.size,2,none⟩ = some (.int .i64 x1)) ∧ (u.cell? ⟨w.heap.size + 1,0,none⟩ = some (.bool n2) ∧ u.cell? ⟨w.heap.size + 1,1,none⟩ = some (.slice b l2 c2) ∧ u.cell? ⟨w.heap.size + 1,2,none⟩ = some (.int .i64 x2))):=fun u k => by
  rw [← hW0] at k
  exact ⟨⟨(k.below.cell (p:=⟨w.heap.size,0,none⟩) (by simp <;> omega)).trans (by simp [go_sem]),(k.below.cell (p:=⟨w.heap.size,1,none⟩) (by simp <;> omega)).trans (by simp [go_sem]),(k.below.cell (p:=⟨w.heap.size,2,none⟩) (by simp <;> omega)).trans (by simp [go_sem])⟩,⟨(k.below.cell (p:=⟨w.heap.size + 1,0,none⟩) (by simp <;> omega)).trans (by simp [go_sem]),(k.below.cell (p:=⟨w.heap.size + 1,1,none⟩) (by simp <;> omega)).trans (by simp [go_sem]),(k.below.cell (p:=⟨w.heap.size + 1,2,none⟩) (by simp <;> omega)).trans (by simp [go_sem])⟩⟩
 obtain ⟨⟨p0,p1,p2⟩,⟨q0,q1,q2⟩⟩:=B2.out _ (Kept.refl _)
 rw [hW0] at hK
 go_enter Tryz.func101,Tryz.ntmps101
 go_wp2_with fail
 clear hW0 p0 p1 p2 q0 q1 q2
 refine (Kd.out _ hK).mono ?_
 rintro e w1 ⟨h,rfl,h0,h1,h2,k1⟩
 have K1 : Hid (Kept W0 w1):=k1
 clear k1
 go_wp2_with fail
 refine wp_loop_rounds 4 ?_
 rw [rounds_succ]
 go_wp2_with fail
 rw [rounds_succ]
 go_wp2_with fail
 rw [rounds_succ]
 go_wp2_with fail
 rw [rounds_succ]
 obtain ⟨⟨p0,p1,p2⟩,⟨q0,q1,q2⟩⟩:=B2.out _ K1.out
 obtain ⟨⟨o0,o1,o2,o3⟩,oF⟩:=B1.out _ K1.out
 have hK2 : Hid (Kept w w1):=hK.trans K1.out
 clear hK
 go_wp2_with fail
 subst hnb
 refine bodyPost_ret (v:=.agg #[.bool (n1 != n2),.int .i64 (H2 : Int),.int .i64 ex,.bool rs]) (by simp [results,Tryz.results101,go_sem,o0,o1,o2,o3]; cases n1 <;> cases n2 <;> rfl) rfl ⟨rfl,?_⟩
 exact (hK2.out.setCell (by simp <;> omega) _ |>.setCell (by simp <;> omega) _ |>.setCell (by simp <;> omega) _ |>.setCell (by simp <;> omega) _)
end Go.Proofs.YtnniljhdcplkgaaGreatDoor
