/- exact.Quot of any two valid numbers that are not 0,in both widths,in all three ways: by a cut. exact.Root of any valid number above 0,in both widths,in all three ways. What exact's Round,Quot and Root answer in all cases. -/
import Derived.Test.YtnniljhdcplkgaaGreatDoorWr34
import Derived.Test.YtnniljhdcplkgaaGreatDoorWr33
import Derived.Test.YtnniljhdcplkgaaGreatDoorWr17
namespace Go.Proofs.YtnniljhdcplkgaaGreatDoor
open Go.ChangeShapes Go.WideShapes Go.ChangeAt Go.RowKit
set_option maxHeartbeats 16000000
set_option maxRecDepth 100000
set_option linter.unusedVariables false
set_option linter.unusedSimpArgs false
theorem quotz_all (n : Int) (hn : n = 64 ∨ n = 32) (a b : Nm) (ha : vld a = true) (hb : vld b = true) (ham : a.mag ≠ []) (hbm : b.mag ≠ []) (s : Int) (hs1 : 2 * s ≤ a.exp) (hs2 : s ≤ b.exp) (hs3 : 2 * s ≤ a.exp + (bl (nv a.mag) : Int) - 30 * ((b.mag.length : Int) + 2)) (hs4 : 2 * s ≤ qex a b + b.exp) (hs5 : s < kleast n) : ∃ k Q H F od hf rt,Cutz (cbn n) (2 ^ (kleast n - s).toNat * (nv b.mag * 2 ^ (b.exp - s).toNat)) (nv a.mag * 2 ^ (a.exp - 2 * s).toNat) k Q H F od hf rt ∧ ∀ (way : Int),(way = 0 ∨ way = 1 ∨ way = 2) → ∀ (a1 a2 : Option Addr) (c1 c2 : Nat) (w : World),Tab w → Sl w (.slice a1 a.mag.length c1) a.mag → Sl w (.slice a2 b.mag.length c2) b.mag → Calls Tryz.prog 68 #[.agg #[.bool a.neg,.slice a1 a.mag.length c1,.int .i64 a.exp],.agg #[.bool b.neg,.slice a2 b.mag.length c2,.int .i64 b.exp],.int .i64 n,.int .i64 way] w fun e w' => e = .returned (.tuple #[.int .i64 (pz n (kyz (a.neg != b.neg) (mgz way (a.neg != b.neg) (ifn n) F od hf rt))),.bool (odz way (a.neg != b.neg) (ifn n) F od hf rt),.int .i64 0]) ∧ Kept w w':=by
 obtain ⟨hlen1,hDg1⟩:=vld_dg a.neg a.mag a.exp ha
 obtain ⟨hlen2,hDg2⟩:=vld_dg b.neg b.mag b.exp hb
 have KR : ∀ (way : Int),(way = 0 ∨ way = 1 ∨ way = 2) → ∀ (a1 a2 : Option Addr) (c1 c2 : Nat) (w : World),Sl w (.slice a1 a.mag.length c1) a.mag → Sl w (.slice a2 b.mag.length c2) b.mag → Hid (Calls Tryz.prog 98 #[.int .i64 n,.int .i64 way,.slice (some ⟨w.heap.size + 2,0,none⟩) 2 2] (((w.alloc (.cells #[.bool a.neg,.slice a1 a.mag.length c1,.int .i64 a.exp] 43)).alloc (.cells #[.bool b.neg,.slice a2 b.mag.length c2,.int .i64 b.exp] 43)).alloc (.cells (pairC a.neg (.slice a1 a.mag.length c1) a.exp b.neg (.slice a2 b.mag.length c2) b.exp) 43)) fun e w' => e = .returned (.tuple #[.agg #[.int .i64 n,.int .i64 (kprec n),.int .i64 (kleast n),.int .i64 (kinf n),.func (.func (wfv way)) #[] #[]],.int .i64 0]) ∧ Kept (((w.alloc (.cells #[.bool a.neg,.slice a1 a.mag.length c1,.int .i64 a.exp] 43)).alloc (.cells #[.bool b.neg,.slice a2 b.mag.length c2,.int .i64 b.exp] 43)).alloc (.cells (pairC a.neg (.slice a1 a.mag.length c1) a.exp b.neg (.slice a2 b.mag.length c2) b.exp) 43)) w'):=fun way hw a1 a2 c1 c2 w h1 h2 => by
  refine roundingOf_ok n way hn hw _ _ (fun u k => ?_)
  have hK : Kept w (((w.alloc (.cells #[.bool a.neg,.slice a1 a.mag.length c1,.int .i64 a.exp] 43)).alloc (.cells #[.bool b.neg,.slice a2 b.mag.length c2,.int .i64 b.exp] 43)).alloc (.cells (pairC a.neg (.slice a1 a.mag.length c1) a.exp b.neg (.slice a2 b.mag.length c2) b.exp) 43)):=(((Kept.refl w).alloc _ _).alloc _ _).alloc _ _
  have hb' : w.heap.size + 2 < (((w.alloc (.cells #[.bool a.neg,.slice a1 a.mag.length c1,.int .i64 a.exp] 43)).alloc (.cells #[.bool b.neg,.slice a2 b.mag.length c2,.int .i64 b.exp] 43)).alloc (.cells (pairC a.neg (.slice a1 a.mag.length c1) a.exp b.neg (.slice a2 b.mag.length c2) b.exp) 43)).heap.size:=by simp
  have:=allValid_2 u (w.heap.size + 2) 2 a.neg b.neg a1 a2 a.mag.length c1 b.mag.length c2 a.exp b.exp true true (Nat.lt_of_lt_of_le hb' k.below.size) ((k.below.cell (p:=⟨w.heap.size + 2,0,none⟩) hb').trans (by simp [go_sem])) ((k.below.cell (p:=⟨w.heap.size + 2,1,none⟩) hb').trans (by simp [go_sem])) ((k.below.cell (p:=⟨w.heap.size + 2,2,none⟩) hb').trans (by simp [go_sem])) ((k.below.cell (p:=⟨w.heap.size + 2,3,none⟩) hb').trans (by simp [go_sem])) ((k.below.cell (p:=⟨w.heap.size + 2,4,none⟩) hb').trans (by simp [go_sem])) ((k.below.cell (p:=⟨w.heap.size + 2,5,none⟩) hb').trans (by simp [go_sem])) (fun v kv => ?_) (fun v kv => ?_)
  ·exact this
  ·have:=xvalid_any a hDg1.rg (by omega) (.agg #[.bool a.neg,.slice a1 a.mag.length c1,.int .i64 a.exp]) v ⟨_,rfl,((h1.kept hK).kept k).kept kv⟩
   rw [ha] at this
   exact this
  ·have:=xvalid_any b hDg2.rg (by omega) (.agg #[.bool b.neg,.slice a2 b.mag.length c2,.int .i64 b.exp]) v ⟨_,rfl,((h2.kept hK).kept k).kept kv⟩
   rw [hb] at this
   exact this
 have hl2:=List.length_pos_iff.2 hbm
 obtain ⟨sg2,hsg2,KG⟩ : ∃ sg2 : Int,(sg2 == 0) = false ∧ ∀ (a2 : Option Addr) (c2 : Nat) (w : World),Calls Tryz.prog 99 #[.agg #[.bool b.neg,.slice a2 b.mag.length c2,.int .i64 b.exp]] w fun e w' => e = .returned (.int .i64 sg2) ∧ Kept w w':=by
  refine ⟨if b.neg = true then -1 else 1,by split <;> decide,fun a2 c2 w => ?_⟩
  have:=signOf_any b.neg a2 b.mag.length c2 b.exp w
  rw [if_neg (by omega)] at this
  exact this
 obtain ⟨p1,p2,p3,p4,p5,p6⟩:=vld_some a.neg a.mag a.exp ham ha
 obtain ⟨q1,q2,q3,q4,q5,q6⟩:=vld_some b.neg b.mag b.exp hbm hb
 have hba:=bl_le _ _ (nv_lt a.mag p2)
 have hbb:=bl_le _ _ (nv_lt b.mag q2)
 have h0a:=nv_ne a ha ham
 have hb0:=nv_ne b hb hbm
 obtain ⟨v1,v2⟩:=quot_val a b ha hb ham hbm s hs1 hs3
 obtain ⟨g1,g2⟩:=qh_bounds a b ha hb ham hbm
 obtain ⟨k1,k2,k3⟩:=kp_toNat n hn
 obtain ⟨c1',c2'⟩:=cbn_pow n hn
 have hexr : -3000000 ≤ qex a b ∧ qex a b ≤ 3000000:=by unfold qex; omega
 obtain ⟨h,hh⟩ : ∃ h,qA a b / qU b = h:=⟨_,rfl⟩
 obtain ⟨B,hB54,hB62,hB1,hB2⟩ : ∃ B,54 ≤ B ∧ B ≤ 62 ∧ 2 ^ (B - 1) ≤ h ∧ h < 2 ^ B:=by
  rw [hh] at g1 g2
  by_cases h60 : h < 2 ^ 60
  ·exact ⟨60,by decide,by decide,g1,h60⟩
  ·exact ⟨61,by decide,by decide,Nat.not_lt.1 h60,g2⟩
 obtain ⟨un,hun⟩ : ∃ un,max (qex a b + (B : Int) - kprec n) (kleast n) = un:=⟨_,rfl⟩
 obtain ⟨m,hm⟩ : ∃ m : Nat,un - qex a b = (m : Int) + 1:=⟨(un - qex a b - 1).toNat,by omega⟩
 obtain ⟨k,hk⟩ : ∃ k,k = h / 2 ^ (m + 1):=⟨_,rfl⟩
 obtain ⟨F,hF⟩ : ∃ F,F = (un - kleast n).toNat * cbn n + k:=⟨_,rfl⟩
 have L : Ldz n h B (qex a b) un m k F:=⟨hun.symm,hm,hk,hF⟩
 obtain ⟨u1,u2,u3⟩:=ld_bounds hn L hB1 hB2 hB54
 have hcp : 0 < cbn n:=by rw [c1']; exact Nat.two_pow_pos _
 have hce : cbn n % 2 = 0:=by rcases hn with rfl | rfl <;> rfl
 have hC:=cutz_lead (cbn n) (2 ^ (kleast n - s).toNat * (nv b.mag * 2 ^ (b.exp - s).toNat)) (nv a.mag * 2 ^ (a.exp - 2 * s).toNat) (nv b.mag * 2 ^ (qex a b + b.exp - 2 * s).toNat) h (qrs a b) (un - kleast n).toNat m k F hcp hce (Nat.mul_pos (by omega) (Nat.two_pow_pos _)) (by rw [← hh]; exact v1) v2 hk hF u2 (by rcases u3 with h | h; left; omega; right; exact h) (by
  rw [Nat.mul_assoc,← Nat.pow_add,← Nat.mul_assoc,← Nat.pow_add,Nat.mul_left_comm,← Nat.pow_add]
  congr 2
  omega)
 refine ⟨_,_,_,_,_,_,_,hC,fun way hw a1 a2 c1 c2 w hT h1 h2 => ?_⟩
 have KQ : ∀ u,Kept w u → _:=fun u ku => quotient_any a b ha hb ham hbm a1 a2 c1 c2 u (h1.kept ku) (h2.kept ku)
 rw [hh] at KQ
 exact xquot way _ n _ _ _ a.neg b.neg a1 a2 a.mag.length c1 b.mag.length c2 a.exp b.exp _ sg2 _ hsg2 _ _ _ _ w (KR way hw a1 a2 c1 c2 w h1 h2) (fun u _ => KG a2 c2 u) KQ (fun u ku => ldround way hw n hn (a.neg != b.neg) h B (qex a b) (qrs a b) un m k F L hB1 hB2 hB54 hB62 hexr.1 hexr.2 _ _ _ rfl rfl rfl u (hT.kept ku))
end Go.Proofs.YtnniljhdcplkgaaGreatDoor

namespace Go.Proofs.YtnniljhdcplkgaaGreatDoor
open Go.ChangeShapes Go.WideShapes Go.ChangeAt Go.RowKit
set_option maxHeartbeats 16000000
set_option maxRecDepth 100000
set_option linter.unusedVariables false
set_option linter.unusedSimpArgs false
end Go.Proofs.YtnniljhdcplkgaaGreatDoor

namespace Go.Proofs.YtnniljhdcplkgaaGreatDoor
open Go.ChangeShapes Go.WideShapes Go.ChangeAt Go.RowKit
set_option maxHeartbeats 16000000
set_option maxRecDepth 100000
set_option linter.unusedVariables false
set_option linter.unusedSimpArgs false
theorem av2 (a b : Nm) (ra : Rg a.mag) (rb : Rg b.mag) (la : a.mag.length < 60000000) (lb : b.mag.length < 60000000) (a1 a2 : Option Addr) (c1 c2 : Nat) (w : World) (h1 : Sl w (.slice a1 a.mag.length c1) a.mag) (h2 : Sl w (.slice a2 b.mag.length c2) b.mag) : Hid (∀ u,Kept (((w.alloc (.cells #[.bool a.neg,.slice a1 a.mag.length c1,.int .i64 a.exp] 43)).alloc (.cells #[.bool b.neg,.slice a2 b.mag.length c2,.int .i64 b.exp] 43)).alloc (.cells (pairC a.neg (.slice a1 a.mag.length c1) a.exp b.neg (.slice a2 b.mag.length c2) b.exp) 43)) u → Calls Tryz.prog 124 #[.slice (some ⟨w.heap.size + 2,0,none⟩) 2 2] u fun e w' => e = .returned (.bool (vld a && vld b)) ∧ Kept u w'):=fun u k => by
 have hK : Kept w (((w.alloc (.cells #[.bool a.neg,.slice a1 a.mag.length c1,.int .i64 a.exp] 43)).alloc (.cells #[.bool b.neg,.slice a2 b.mag.length c2,.int .i64 b.exp] 43)).alloc (.cells (pairC a.neg (.slice a1 a.mag.length c1) a.exp b.neg (.slice a2 b.mag.length c2) b.exp) 43)):=(((Kept.refl w).alloc _ _).alloc _ _).alloc _ _
 have hb' : w.heap.size + 2 < (((w.alloc (.cells #[.bool a.neg,.slice a1 a.mag.length c1,.int .i64 a.exp] 43)).alloc (.cells #[.bool b.neg,.slice a2 b.mag.length c2,.int .i64 b.exp] 43)).alloc (.cells (pairC a.neg (.slice a1 a.mag.length c1) a.exp b.neg (.slice a2 b.mag.length c2) b.exp) 43)).heap.size:=by simp
 exact allValid_2 u (w.heap.size + 2) 2 a.neg b.neg a1 a2 a.mag.length c1 b.mag.length c2 a.exp b.exp (vld a) (vld b) (Nat.lt_of_lt_of_le hb' k.below.size) ((k.below.cell (p:=⟨w.heap.size + 2,0,none⟩) hb').trans (by simp [go_sem])) ((k.below.cell (p:=⟨w.heap.size + 2,1,none⟩) hb').trans (by simp [go_sem])) ((k.below.cell (p:=⟨w.heap.size + 2,2,none⟩) hb').trans (by simp [go_sem])) ((k.below.cell (p:=⟨w.heap.size + 2,3,none⟩) hb').trans (by simp [go_sem])) ((k.below.cell (p:=⟨w.heap.size + 2,4,none⟩) hb').trans (by simp [go_sem])) ((k.below.cell (p:=⟨w.heap.size + 2,5,none⟩) hb').trans (by simp [go_sem])) (fun v kv => xvalid_any a ra (by omega) (.agg #[.bool a.neg,.slice a1 a.mag.length c1,.int .i64 a.exp]) v ⟨_,rfl,((h1.kept hK).kept k).kept kv⟩) (fun v kv => xvalid_any b rb (by omega) (.agg #[.bool b.neg,.slice a2 b.mag.length c2,.int .i64 b.exp]) v ⟨_,rfl,((h2.kept hK).kept k).kept kv⟩)
/- Round -/
/- Quot,where it is refused,by 0,and of 0 -/
theorem quot_nought (n way : Int) (hn : n = 64 ∨ n = 32) (hw : way = 0 ∨ way = 1 ∨ way = 2) (a b : Nm) (ra : Rg a.mag) (rb : Rg b.mag) (la : a.mag.length < 60000000) (lb : b.mag.length < 60000000) (a1 a2 : Option Addr) (c1 c2 : Nat) (w : World) (h1 : Sl w (.slice a1 a.mag.length c1) a.mag) (h2 : Sl w (.slice a2 b.mag.length c2) b.mag) (ha : vld a = true) (hb : vld b = true) (ham : a.mag.length = 0) (hbm : b.mag.length ≠ 0) : Calls Tryz.prog 68 #[.agg #[.bool a.neg,.slice a1 a.mag.length c1,.int .i64 a.exp],.agg #[.bool b.neg,.slice a2 b.mag.length c2,.int .i64 b.exp],.int .i64 n,.int .i64 way] w fun e w' => e = .returned (.tuple #[.int .i64 0,.bool false,.int .i64 0]) ∧ Kept w w':=by
 have hv:=av2 a b ra rb la lb a1 a2 c1 c2 w h1 h2
 rw [ha,hb] at hv
 have KG : ∀ u,Kept w u → _:=fun u _ => signOf_any b.neg a2 b.mag.length c2 b.exp u
 rw [if_neg hbm] at KG
 have hsg : ((if b.neg = true then (-1 : Int) else 1) == 0) = false:=by cases b.neg <;> rfl
 have KQ : ∀ u,Kept w u → _:=fun u _ => quotient_nil a.neg a1 c1 a.exp b.neg a2 b.mag.length c2 b.exp u
 rw [← ham] at KQ
 have KR:=roundingOf_ok n way hn hw _ _ hv
 exact xquot way _ n _ _ _ a.neg b.neg a1 a2 a.mag.length c1 b.mag.length c2 a.exp b.exp _ _ _ hsg _ _ _ _ w KR KG KQ (fun u _ => round_zero n _ _ _ _ 0 false false u)
/- Root,where it is refused,of what is below 0,and of 0 -/
end Go.Proofs.YtnniljhdcplkgaaGreatDoor
