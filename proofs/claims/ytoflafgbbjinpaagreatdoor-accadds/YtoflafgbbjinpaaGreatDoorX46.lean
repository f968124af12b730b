/- For AccAdds: the document's Times,in all cases. AccMerges: the walk of merges. -/
import Derived.Test.YtoflafgbbjinpaaGreatDoorX45
import Derived.Test.YtoflafgbbjinpaaGreatDoorX41
namespace Go.Proofs.YtoflafgbbjinpaaGreatDoor
open Go.ChangeShapes Go.WideShapes Go.ChangeAt Go.RowKit
set_option linter.unusedVariables false
set_option linter.unusedSimpArgs false
set_option maxHeartbeats 16000000
set_option maxRecDepth 100000
theorem rtimes_gen (Pin : Nat → Prop) (n b : Int) (hn : n = 64 ∨ n = 32) (b1 : -9223372036854775808 ≤ b) (b2 : b ≤ 9223372036854775807) (a : Nm) (hv : vld a = true) (p m z : Bool) (ao : Option Addr) (d : Nat) (w : World) (hPin : ∀ c,Pin c → c < w.heap.size) (h : RLp Pin w (.slice ao a.mag.length d) a.mag) :
  Calls Tryz.prog 45 #[accV a.neg (.slice ao a.mag.length d) a.exp p m z,.int .i64 b,.int .i64 n] w fun e w' => ∃ ua uc,e = .returned (accV (qTm n b a).neg (.slice ua (qTm n b a).mag.length uc) (qTm n b a).exp (tP n b a p m z) (tM n b a p m z) (tZ n b a p m z)) ∧ Hid (RLp (fun c => Pin c ∨ w.heap.size ≤ c) w' (.slice ua (qTm n b a).mag.length uc) (qTm n b a).mag) ∧ Kept w w':=by
 have KC : Hid (∀ u,Calls Tryz.prog 91 #[.int .i64 b,.int .i64 n] u fun e w' => e = .returned (.int .i64 (cls b n)) ∧ Kept u w'):=fun u => rclass_any b n b1 b2 u
 obtain ⟨s0,hs0⟩ : ∃ s : Int,s = if a.mag.length = 0 then 0 else if a.neg = true then -1 else 1:=⟨_,rfl⟩
 have KS : Hid (∀ u,Calls Tryz.prog 96 #[.agg #[.bool a.neg,.slice ao a.mag.length d,.int .i64 a.exp]] u fun e w' => e = .returned (.int .i64 s0) ∧ Kept u w'):=fun u => by rw [hs0]; exact rsig_any a.neg ao a.mag.length d a.exp u
 have hcr:=cls_range b n
 by_cases hc12 : cls b n = 1 ∨ cls b n = 2
 ·have hc3 : cls b n < 3:=by omega
  have ht : vld (ofN b n) = true:=(of_lies n b hn hc3 (finP_of b n b1 b2 hn hc3)).1.ok
  have hN:=(ofN_nrm b n hn hc3).2
  have hq : qTm n b a = tms a (ofN b n):=by unfold qTm; rw [if_pos hc12]
  have e1 : tP n b a p m z = (bif sgn b n then m else p):=by unfold tP; rw [if_pos hc12]
  have e2 : tM n b a p m z = (bif sgn b n then p else m):=by unfold tM; rw [if_pos hc12]
  have e3 : tZ n b a p m z = z:=by unfold tZ; rw [if_pos hc12]
  rw [hq,e1,e2,e3]
  refine rtimes_fin Pin (tms a (ofN b n)) n b a.neg ao a.mag.length d a.exp p m z s0 w (sgn b n) (cls b n) hc12 hPin KC KS (fun u => rneg_any b n hn (by omega) b1 b2 u) (fun u k => ?_) (fun u0 u v k k2 hv' => ?_)
  ·refine (rexact_any b n b1 b2 hn hc3 u).mono ?_
   rintro e w' ⟨⟨v,rfl,hv2⟩,k'⟩
   refine ⟨v,rfl,?_,k'⟩
   rw [hN]
   exact hv2
  ·refine (times_any (fun c => Pin c ∨ u0.heap.size ≤ c) u a (ofN b n) _ v ⟨_,rfl,((h.imp (fun c hc => .inl hc)).kept k).kept k2⟩ (hv'.out.imp (fun c hc => .inr hc)) hv ht).mono ?_
   rintro e w' ⟨⟨v2,rfl,hv2⟩,k'⟩
   obtain ⟨s',rfl,hs⟩:=hv2
   have hs':=hs.imp (fun c hc => hc.elim id (fun hc => .inr (Nat.le_trans k2.below.size hc)))
   obtain ⟨ao',c',rfl,-,-,-⟩:=hs
   exact ⟨ao',c',rfl,hs',k'⟩
 ·have hq : qTm n b a = ⟨false,[],0⟩:=by unfold qTm; rw [if_neg hc12]
  rw [hq]
  by_cases h0 : cls b n = 0
  ·rw [h0] at KC
   have e1 : tP n b a p m z = false:=by unfold tP; rw [if_neg hc12,h0]; rfl
   have e2 : tM n b a p m z = false:=by unfold tM; rw [if_neg hc12,h0]; rfl
   have e3 : tZ n b a p m z = (p || m || z):=by unfold tZ; rw [if_neg hc12,if_pos h0]
   rw [e1,e2,e3]
   refine (rtimes_zero n b a.neg ao a.mag.length d a.exp p m z s0 w (sgn b n) KC KS (fun u => rneg_any b n hn (by omega) b1 b2 u)).mono ?_
   rintro e w' ⟨rfl,k⟩
   exact ⟨none,0,rfl,RLp.nil _ _,k⟩
  by_cases h3 : cls b n = 3
  ·rw [h3] at KC
   have hsg : sgA a p m = if (p != m) = true then (if m = true then -1 else 1) else s0:=by unfold sgA; rw [hs0]
   have e1 : tP n b a p m z = (!(z || (p && m) || ((if (p != m) = true then (if m = true then -1 else 1) else s0) == 0)) && !(decide ((if (p != m) = true then (if m = true then -1 else 1) else s0) < 0) != sgn b n)):=by unfold tP nnA; rw [if_neg hc12,decide_eq_true h3,hsg,Bool.true_and]
   have e2 : tM n b a p m z = (!(z || (p && m) || ((if (p != m) = true then (if m = true then -1 else 1) else s0) == 0)) && (decide ((if (p != m) = true then (if m = true then -1 else 1) else s0) < 0) != sgn b n)):=by unfold tM nnA; rw [if_neg hc12,decide_eq_true h3,hsg,Bool.true_and]
   have e3 : tZ n b a p m z = (z || (p && m) || ((if (p != m) = true then (if m = true then -1 else 1) else s0) == 0)):=by unfold tZ nnA; rw [if_neg hc12,if_neg h0,if_pos h3,hsg]
   rw [e1,e2,e3]
   refine (rtimes_inf n b a.neg ao a.mag.length d a.exp p m z s0 w (sgn b n) (by rw [hs0]; split; exact .inl rfl; split; exact .inr (.inr rfl); exact .inr (.inl rfl)) KC KS (fun u => rneg_any b n hn (by omega) b1 b2 u)).mono ?_
   rintro e w' ⟨rfl,k⟩
   exact ⟨none,0,rfl,RLp.nil _ _,k⟩
  ·have h4 : cls b n = 4:=by omega
   rw [h4] at KC
   have e1 : tP n b a p m z = false:=by unfold tP; rw [if_neg hc12,decide_eq_false h3]; rfl
   have e2 : tM n b a p m z = false:=by unfold tM; rw [if_neg hc12,decide_eq_false h3]; rfl
   have e3 : tZ n b a p m z = true:=by unfold tZ; rw [if_neg hc12,if_neg h0,if_neg h3]
   rw [e1,e2,e3]
   refine (rtimes_nan n b a.neg ao a.mag.length d a.exp p m z s0 w KC KS).mono ?_
   rintro e w' ⟨rfl,k⟩
   exact ⟨none,0,rfl,RLp.nil _ _,k⟩
/- all that may come out is in range -/
theorem qOn_ok (n b : Int) (hn : n = 64 ∨ n = 32) (b1 : -9223372036854775808 ≤ b) (b2 : b ≤ 9223372036854775807) (a : Nm) (hv : vld a = true) : Rg (qOn n b a).mag ∧ (qOn n b a).mag.length < 10000000:=by
 unfold qOn
 split
 ·next hc => exact pls_ok a (ofN b n) hv (of_lies n b hn hc (finP_of b n b1 b2 hn hc)).1.ok
 ·obtain ⟨hl,hd⟩:=vld_dg a.neg a.mag a.exp hv
  exact ⟨hd.rg,by omega⟩
theorem qPr_ok (n x y : Int) (hn : n = 64 ∨ n = 32) (x1 : -9223372036854775808 ≤ x) (x2 : x ≤ 9223372036854775807) (y1 : -9223372036854775808 ≤ y) (y2 : y ≤ 9223372036854775807) (a : Nm) (hv : vld a = true) : Rg (qPr n x y a).mag ∧ (qPr n x y a).mag.length < 10000000:=by
 unfold qPr
 split
 ·next hb =>
  unfold bth at hb
  rw [Bool.and_eq_true,decide_eq_true_eq,decide_eq_true_eq] at hb
  exact pls_ok a _ hv (dn_tms n x y hn x1 x2 y1 y2 hb.1 hb.2).vld
 ·obtain ⟨hl,hd⟩:=vld_dg a.neg a.mag a.exp hv
  exact ⟨hd.rg,by omega⟩
theorem qTm_ok (n b : Int) (hn : n = 64 ∨ n = 32) (b1 : -9223372036854775808 ≤ b) (b2 : b ≤ 9223372036854775807) (a : Nm) (hv : vld a = true) : Rg (qTm n b a).mag ∧ (qTm n b a).mag.length < 10000000:=by
 unfold qTm
 split
 ·next hc => exact tms_ok a (ofN b n) hv (of_lies n b hn (by omega) (finP_of b n b1 b2 hn (by omega))).1.ok
 ·exact ⟨(by intro d hd; cases hd),by simp⟩
theorem lent_sl {L : List Int} {u : World} {g cap : Nat} (ho : Own u g cap (L ++ [-71,-72,-73])) : Sl u (.slice (some ⟨g,0,none⟩) L.length cap) L:=by
 have hs:=ho.slTake L.length (by simp)
 rwa [List.take_left' rfl] at hs
theorem sl_rlp {w0 : World} {q : Option Addr} {L : List Int} {d : Nat} (hc : q = none → d = 0) (h : Sl w0 (.slice q L.length d) L) (u : World) (k : Kept w0 u) : RLp (fun c => c < w0.heap.size) u (.slice q L.length d) L:=by
 have h1 : RLp (fun _ => True) w0 (.slice q L.length d) L:=⟨_,_,rfl,hc,h,fun _ _ _ _ => trivial⟩
 exact (h1.low.imp (fun c h => h.2)).kept k
end Go.Proofs.YtoflafgbbjinpaaGreatDoor
