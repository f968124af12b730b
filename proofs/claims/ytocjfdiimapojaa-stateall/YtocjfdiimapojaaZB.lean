/- The document's Check: a matrix in form. -/
import Derived.Test.YtocjfdiimapojaaMI
namespace Go.Proofs.Ytocjfdiimapojaa
open Go.ChangeShapes Go.WideShapes Go.ChangeAt Go.RowKit
set_option maxHeartbeats 16000000
set_option maxRecDepth 100000
set_option linter.unusedVariables false
set_option linter.unusedSimpArgs false
theorem rfinite_any (b n : Int) (hb1 : -9223372036854775808 ≤ b) (hb2 : b ≤ 9223372036854775807) (w : World) : Calls Try.prog 56 #[.int .i64 b,.int .i64 n] w fun e w' => e = .returned (.bool (decide (cls b n < 3))) ∧ Kept w w':=by
 have KC : Hid (∀ u,Calls Try.prog 66 #[.int .i64 b,.int .i64 n] u fun e w' => e = .returned (.int .i64 (cls b n)) ∧ Kept u w'):=fun u => rclass_any b n hb1 hb2 u
 generalize cls b n = q at *
 go_enter Try.func56,Try.ntmps56
 go_wp2_with (first | (go_at_call 66; refine (KC.out _).mono ?_; rintro e w1 ⟨rfl,k1⟩))
 go_ret
 exact ⟨rfl,k1⟩
theorem mul_small {r c : Int} (hr : 1 ≤ r) (hc : 1 ≤ c) (h : r * c ≤ 4096) : r ≤ 4096 ∧ c ≤ 4096:=by
 have h1 : r * 1 ≤ r * c:=Int.mul_le_mul_of_nonneg_left hc (by omega)
 have h2 : 1 * c ≤ r * c:=Int.mul_le_mul_of_nonneg_right hr (by omega)
 omega
theorem matOk_iff (m : Mat) : matOk m ↔ (m.n = 64 ∨ m.n = 32) ∧ 1 ≤ m.r ∧ 1 ≤ m.c ∧ m.r * m.c ≤ 4096 ∧ (m.L.length : Int) = m.r * m.c ∧ ∀ i,i < m.L.length → cls (m.L.getD i 0) m.n < 3:=by
 constructor
 ·rintro ⟨h1,h2⟩
  obtain ⟨h3,h4,h5⟩:=ckM_ok h1
  obtain ⟨h6,h7,h8,h9⟩:=ckS_ok h3
  refine ⟨h6,h7,h8,h9,h4,fun i hi => ?_⟩
  have:=h2 i hi
  rw [fin_val _ _ h6] at this
  exact of_decide_eq_true this
 ·rintro ⟨h1,h2,h3,h4,h5,h6⟩
  obtain ⟨h7,h8⟩:=mul_small h2 h3 h4
  have hS : ckS m.r m.c m.n = 0:=by
   unfold ckS
   rw [if_neg (fun h => h h1),if_neg (by omega)]
   unfold ckR
   rw [if_neg]
   rw [Int.tdiv_eq_ediv_of_nonneg (by decide)]
   have:=Int.le_ediv_of_mul_le (show 0 < m.c by omega) h4
   omega
  refine ⟨?_,fun i hi => by rw [fin_val _ _ h1]; exact decide_eq_true (h6 i hi)⟩
  unfold ckM
  rw [if_neg (fun h => h hS),if_neg (fun h => h h5),if_pos]
  rw [List.all_eq_true]
  intro x hx
  obtain ⟨i,hi,rfl⟩:=List.getElem_of_mem hx
  have h9:=h6 i hi
  rw [List.getD_eq_getElem?_getD,List.getElem?_eq_getElem hi] at h9
  have h10 : cls m.L[i] m.n < 3:=h9
  unfold val
  rcases h1 with e | e
  ·simp [e]
  ·rw [e] at h10
   have:=cls_valid m.L[i] (by omega)
   simp [e]
   omega
def RBo (p : Prop) (e : Ending) : Prop:=(p ∧ e = .returned (.bool true)) ∨ (¬ p ∧ e = .returned (.bool false))
theorem rmat_any (r c n : Int) (L : List Int) (a : Option Addr) (cp : Nat) (hlen : L.length ≤ 9223372036854775806) (hrg : MRg ⟨r,c,n,L⟩) (w : World) (hs : Sl w (.slice a L.length cp) L) : Calls Try.prog 59 #[.agg #[.int .i64 r,.int .i64 c,.int .i64 n,.slice a L.length cp]] w fun e w' => RBo (matOk ⟨r,c,n,L⟩) e ∧ Kept w w':=by
 obtain ⟨M,hM⟩ : ∃ M,w.heap.size = M:=⟨_,rfl⟩
 obtain ⟨N,hN⟩ : ∃ N,L.length = N:=⟨_,rfl⟩
 rw [hN] at hs hlen ⊢
 obtain ⟨W0,hW0⟩ : ∃ W0,w.alloc (.cells #[.int .i64 r,.int .i64 c,.int .i64 n,.slice a N cp] 54) = W0:=⟨_,rfl⟩
 have k0 : Kept w W0:=by rw [← hW0]; exact (Kept.refl w).alloc _ _
 have b0 : Bk W0 M [.int .i64 r,.int .i64 c,.int .i64 n,.slice a N cp]:=by rw [← hW0,← hM]; exact Bk.new w _ _
 have HMO:=hid (matOk_iff ⟨r,c,n,L⟩)
 have HN:=hid hN
 have HK0:=hid k0
 have HB:=hid (show ∀ u,Kept W0 u → u.cell? ⟨M,0,none⟩ = some (.int .i64 r) ∧ u.cell? ⟨M,1,none⟩ = some (.int .i64 c) ∧ u.cell? ⟨M,2,none⟩ = some (.int .i64 n) ∧ u.cell? ⟨M,3,none⟩ = some (.slice a N cp) from fun u ku => ⟨(b0.kept ku).c 0 _ rfl,(b0.kept ku).c 1 _ rfl,(b0.kept ku).c 2 _ rfl,(b0.kept ku).c 3 _ rfl⟩)
 have HSl:=hid (hs.kept k0)
 have HRg:=hid hrg
 obtain ⟨c0,c1,c2,c3⟩:=HB.out W0 (Kept.refl _)
 clear b0 k0 hs hrg
 by_cases hn : n = 64 ∨ n = 32
 case neg =>
  have n1 : ¬ n = 32:=fun e => hn (.inr e)
  have n2 : ¬ n = 64:=fun e => hn (.inl e)
  have d1 : (n == 32) = false:=by simpa using n1
  have d2 : (n == 64) = false:=by simpa using n2
  have HNo:=hid (show ¬ matOk ⟨r,c,n,L⟩ from fun h => hn (HMO.out.1 h).1)
  clear hn
  go_enter Try.func59,Try.ntmps59
  go_wp2_with fail
  go_ret
  exact ⟨.inr ⟨HNo.out,rfl⟩,HK0.out⟩
 have HNn:=hid hn
 obtain ⟨t1,ht1⟩ : ∃ t1 : Bool,(n != 32) = t1:=⟨_,rfl⟩
 have dn : (n != 32 && n != 64) = false:=by rcases hn with e | e <;> simp [e]
 clear hn
 by_cases hr : r < 1
 ·have d1 : decide (r < 1) = true:=decide_eq_true hr
  have HNo:=hid (show ¬ matOk ⟨r,c,n,L⟩ from fun h => by have:=(HMO.out.1 h).2.1; dsimp only at this; omega)
  rcases HNn.out with e | e
  all_goals
   subst e
   clear dn ht1
   go_enter Try.func59,Try.ntmps59
   go_wp2_with fail
   go_ret
   exact ⟨.inr ⟨HNo.out,rfl⟩,HK0.out⟩
 have e1 : decide (r < 1) = false:=decide_eq_false hr
 by_cases hc : c < 1
 ·have d1 : decide (c < 1) = true:=decide_eq_true hc
  have HNo:=hid (show ¬ matOk ⟨r,c,n,L⟩ from fun h => by have:=(HMO.out.1 h).2.2.1; dsimp only at this; omega)
  rcases HNn.out with e | e
  all_goals
   subst e
   clear dn ht1
   go_enter Try.func59,Try.ntmps59
   go_wp2_with fail
   go_ret
   exact ⟨.inr ⟨HNo.out,rfl⟩,HK0.out⟩
 have e2 : decide (c < 1) = false:=decide_eq_false hc
 by_cases hr2 : 4096 < r
 ·have d1 : decide (4096 < r) = true:=decide_eq_true hr2
  have HNo:=hid (show ¬ matOk ⟨r,c,n,L⟩ from fun h => by have h9:=HMO.out.1 h; have:=mul_small h9.2.1 h9.2.2.1 h9.2.2.2.1; dsimp only at this; omega)
  rcases HNn.out with e | e
  all_goals
   subst e
   clear dn ht1
   go_enter Try.func59,Try.ntmps59
   go_wp2_with fail
   go_ret
   exact ⟨.inr ⟨HNo.out,rfl⟩,HK0.out⟩
 have e3 : decide (4096 < r) = false:=decide_eq_false hr2
 by_cases hc2 : 4096 < c
 ·have d1 : decide (4096 < c) = true:=decide_eq_true hc2
  have HNo:=hid (show ¬ matOk ⟨r,c,n,L⟩ from fun h => by have h9:=HMO.out.1 h; have:=mul_small h9.2.1 h9.2.2.1 h9.2.2.2.1; dsimp only at this; omega)
  rcases HNn.out with e | e
  all_goals
   subst e
   clear dn ht1
   go_enter Try.func59,Try.ntmps59
   go_wp2_with fail
   go_ret
   exact ⟨.inr ⟨HNo.out,rfl⟩,HK0.out⟩
 have e4 : decide (4096 < c) = false:=decide_eq_false hc2
 obtain ⟨q,hq⟩ : ∃ q,r * c = q:=⟨_,rfl⟩
 have hq1 : 0 ≤ q ∧ q ≤ 16777216:=by
  rw [← hq]
  refine ⟨Int.mul_nonneg (by omega) (by omega),?_⟩
  have h1 : r * c ≤ r * 4096:=Int.mul_le_mul_of_nonneg_left (by omega) (by omega)
  omega
 have zq : IntKind.i64.wrap q = q:=by rw [wrap_i64]; omega
 by_cases hq2 : 4096 < q
 ·have d1 : decide (4096 < q) = true:=decide_eq_true hq2
  have HNo:=hid (show ¬ matOk ⟨r,c,n,L⟩ from fun h => by have h9:=(HMO.out.1 h).2.2.2.1; dsimp only at h9; omega)
  rcases HNn.out with e | e
  all_goals
   subst e
   clear dn ht1
   go_enter Try.func59,Try.ntmps59
   go_wp2_with fail
   go_ret
   exact ⟨.inr ⟨HNo.out,rfl⟩,HK0.out⟩
 have e5 : decide (4096 < q) = false:=decide_eq_false hq2
 by_cases hl : (N : Int) = q
 case neg =>
  have d1 : ((N : Int) == q) = false:=by simpa using hl
  have d2 : ((N : Int) != q) = true:=by simpa using hl
  have HNo:=hid (show ¬ matOk ⟨r,c,n,L⟩ from fun h => by have h9:=(HMO.out.1 h).2.2.2.2.1; dsimp only at h9; omega)
  rcases HNn.out with e | e
  all_goals
   subst e
   clear dn ht1
   go_enter Try.func59,Try.ntmps59
   go_wp2_with fail
   go_ret
   exact ⟨.inr ⟨HNo.out,rfl⟩,HK0.out⟩
 have d1 : ((N : Int) == q) = true:=by simpa using hl
 have d2 : ((N : Int) != q) = false:=by simpa using hl
 have HMk : Hid ((∀ i,i < N → cls (L.getD i 0) n < 3) → matOk ⟨r,c,n,L⟩):=fun h => HMO.out.2 ⟨HNn.out,by dsimp only; omega,by dsimp only; omega,by dsimp only; omega,by dsimp only; rw [HN.out,hq]; exact hl,by dsimp only; rw [HN.out]; exact h⟩
 have HMn : Hid (∀ i,i < N → ¬ cls (L.getD i 0) n < 3 → ¬ matOk ⟨r,c,n,L⟩):=fun i hi h k => h ((HMO.out.1 k).2.2.2.2.2 i (by dsimp only; have:=HN.out; omega))
 have HFi : Hid (∀ i u,i < N → Calls Try.prog 56 #[.int .i64 (L.getD i 0),.int .i64 n] u fun e w' => e = .returned (.bool (decide (cls (L.getD i 0) n < 3))) ∧ Kept u w'):=fun i u hi => by
  have hm : L.getD i 0 ∈ L:=by
   rw [List.getD_eq_getElem?_getD,List.getElem?_eq_getElem (by have:=HN.out; omega)]
   exact List.getElem_mem _
  exact rfinite_any _ n (HRg.out _ hm).1 (HRg.out _ hm).2 u
 have HRd : Hid (∀ u i,Kept W0 u → i < N → ∃ b off,a = some ⟨b,off,none⟩ ∧ u.cell? ⟨b,off + i,none⟩ = some (.int .i64 (L.getD i 0))):=fun u i ku hi => by
  obtain ⟨ao',cap',e,-,-,hr⟩:=HSl.out.kept ku
  cases e
  obtain ⟨b,off,e2,-,hrd⟩:=hr (by intro e; rw [e] at hi; simp at hi)
  exact ⟨b,off,e2,hrd i (by have:=HN.out; omega)⟩
 have HNb:=hid (show N ≤ 4096 by omega)
 clear hlen HSl HRg HMO hl hr hc hr2 hc2 hq2 hq1 hN
 rcases HNn.out with e | e
 ·skip
  subst e
  clear dn ht1
  go_enter Try.func59,Try.ntmps59
  go_wp2_with fail
  go_loopw [3] (fun iv wr => ∃ i : Nat,i ≤ N ∧ iv = .int .i64 (i : Int) ∧ Kept W0 wr ∧ ∀ x,x < i → cls (L.getD x 0) 64 < 3) (fun iv _ => N - (intOf iv).toNat)
  case atStart => exact ⟨0,Nat.zero_le _,rfl,Kept.refl _,fun x hx => by omega⟩
  case round =>
   clear c0 c1 c2 c3
   obtain ⟨i,hi,rfl,kr,hal⟩:=hrel
   have HAl:=hid hal
   have HKr:=hid kr
   obtain ⟨c0,c1,c2,c3⟩:=HB.out wr kr
   clear hal
   by_cases hin : i < N
   ·obtain ⟨b,off,rfl,e0⟩:=HRd.out wr i kr hin
    have hbd : (0 : Int) ≤ (i : Int) ∧ (i : Int) < (N : Int):=by omega
    have hbd2 : (i : Int) < (N : Int):=by omega
    have z9 : IntKind.i64.wrap ((i : Int) + 1) = (i : Int) + 1:=by have:=HNb.out; rw [wrap_i64]; omega
    have HFc:=hid (HFi.out i wr.drew hin)
    have HII:=hid (show i < N ∧ True from ⟨hin,trivial⟩)
    have HAs:=hid (show cls (L.getD i 0) 64 < 3 → ∀ x,x < i + 1 → cls (L.getD x 0) 64 < 3 from fun h x hx => (Nat.lt_succ_iff_lt_or_eq.1 hx).elim (fun h => HAl.out x h) (fun e => by rw [e]; exact h))
    have HNoI:=hid (HMn.out i hin)
    clear kr HFi HMn HRd
    generalize L.getD i 0 = bi at *
    obtain ⟨t,ht⟩ : ∃ t,decide (cls bi 64 < 3) = t:=⟨_,rfl⟩
    rw [ht] at HFc
    have HT:=hid ht
    clear ht
    go_wp2_with fail
    refine wp_region_late [8] (fun u => u.cell? ⟨M,3,none⟩ = some (.slice (some ⟨b,off,none⟩) N cp) ∧ u.cell? ⟨b,off + i,none⟩ = some (.int .i64 bi) ∧ u.cell? ⟨M,2,none⟩ = some (.int .i64 64)) (by kernel_rfl) (show wr.drew.cell? _ = _ ∧ wr.drew.cell? _ = _ ∧ wr.drew.cell? _ = _ from ⟨c3,e0,c2⟩) (fun hHeld => ?_)
    refine tkD (i:=0) (v:=?_) rfl hHeld ?_
    (try simp only [Act.put,zA,zB,zC,zD,zE,zF])
    refine tkD (i:=1) (v:=?_) rfl hHeld ?_
    (try simp only [Act.put,zA,zB,zC,zD,zE,zF])
    refine tkD (i:=2) (v:=?_) rfl hHeld ?_
    (try simp only [Act.put,zA,zB,zC,zD,zE,zF])
    refine tkD (i:=3) (v:=?_) rfl hHeld ?_
    (try simp only [Act.put,zA,zB,zC,zD,zE,zF])
    refine tkD (i:=4) (v:=?_) rfl hHeld ?_
    (try simp only [Act.put,zA,zB,zC,zD,zE,zF])
    refine tkD (i:=5) (v:=?_) rfl hHeld ?_
    (try simp only [Act.put,zA,zB,zC,zD,zE,zF])
    refine tkD (i:=6) (v:=?_) rfl hHeld ?_
    (try simp only [Act.put,zA,zB,zC,zD,zE,zF])
    refine wpAnyD_step (i:=7) (by kernel_rfl) rfl (fun K hK9 => ?_)
    go_simp
    go_wp2_with fail
    refine HFc.out.mono ?_
    rintro e w5 ⟨rfl,k5⟩
    have kd5:=hid ((Kept.refl wr).drew.trans k5)
    have s5 : w5.cell? ⟨M,3,none⟩ = some (.slice (some ⟨b,off,none⟩) N cp) ∧ w5.cell? ⟨b,off + i,none⟩ = some (.int .i64 bi) ∧ w5.cell? ⟨M,2,none⟩ = some (.int .i64 64):=⟨(kd5.out.below.cell (p:=⟨M,3,none⟩) (World.block_lt_of_cell? _ _ c3)).trans c3,(kd5.out.below.cell (p:=⟨b,off + i,none⟩) (World.block_lt_of_cell? _ _ e0)).trans e0,(kd5.out.below.cell (p:=⟨M,2,none⟩) (World.block_lt_of_cell? _ _ c2)).trans c2⟩
    refine hK9.out _ _ s5 (fun hHeld2 => ?_)
    clear hK9 K k5
    (try simp only [Act.put,zA,zB,zC,zD,zE,zF])
    refine wpAnyD_late (i:=8) (by kernel_rfl) rfl rfl (fun K hK9 => ?_)
    go_simp
    refine hK9.out _ _ ?_
    clear hK9 K
    (try simp only [Act.put,zA,zB,zC,zD,zE,zF])
    refine wpAnyD_done (by kernel_rfl) ?_ _
    (try simp only [Act.put,zA,zB,zC,zD,zE,zF])
    clear hHeld hHeld2 s5 c0 c1 c2 c3 e0
    cases t with
    | true =>
     have hc3:=of_decide_eq_true HT.out
     go_wp2_with fail
     go_roundw
     case rel => exact ⟨i + 1,by omega,by go_num,HKr.out.trans kd5.out,HAs.out hc3⟩
     case measure => simp [intOf]; omega
    | false =>
     have hc3:=of_decide_eq_false HT.out
     go_wp2_with fail
     go_ret
     exact ⟨.inr ⟨HNoI.out hc3,rfl⟩,HK0.out.trans (HKr.out.trans kd5.out)⟩
   ·obtain rfl : i = N:=by omega
    go_wp2_with fail
    go_ret
    exact ⟨.inl ⟨HMk.out HAl.out,rfl⟩,HK0.out.trans HKr.out⟩
 ·skip
  subst e
  clear dn ht1
  go_enter Try.func59,Try.ntmps59
  go_wp2_with fail
  go_loopw [3] (fun iv wr => ∃ i : Nat,i ≤ N ∧ iv = .int .i64 (i : Int) ∧ Kept W0 wr ∧ ∀ x,x < i → cls (L.getD x 0) 32 < 3) (fun iv _ => N - (intOf iv).toNat)
  case atStart => exact ⟨0,Nat.zero_le _,rfl,Kept.refl _,fun x hx => by omega⟩
  case round =>
   clear c0 c1 c2 c3
   obtain ⟨i,hi,rfl,kr,hal⟩:=hrel
   have HAl:=hid hal
   have HKr:=hid kr
   obtain ⟨c0,c1,c2,c3⟩:=HB.out wr kr
   clear hal
   by_cases hin : i < N
   ·obtain ⟨b,off,rfl,e0⟩:=HRd.out wr i kr hin
    have hbd : (0 : Int) ≤ (i : Int) ∧ (i : Int) < (N : Int):=by omega
    have hbd2 : (i : Int) < (N : Int):=by omega
    have z9 : IntKind.i64.wrap ((i : Int) + 1) = (i : Int) + 1:=by have:=HNb.out; rw [wrap_i64]; omega
    have HFc:=hid (HFi.out i wr.drew hin)
    have HII:=hid (show i < N ∧ True from ⟨hin,trivial⟩)
    have HAs:=hid (show cls (L.getD i 0) 32 < 3 → ∀ x,x < i + 1 → cls (L.getD x 0) 32 < 3 from fun h x hx => (Nat.lt_succ_iff_lt_or_eq.1 hx).elim (fun h => HAl.out x h) (fun e => by rw [e]; exact h))
    have HNoI:=hid (HMn.out i hin)
    clear kr HFi HMn HRd
    generalize L.getD i 0 = bi at *
    obtain ⟨t,ht⟩ : ∃ t,decide (cls bi 32 < 3) = t:=⟨_,rfl⟩
    rw [ht] at HFc
    have HT:=hid ht
    clear ht
    go_wp2_with fail
    refine wp_region_late [8] (fun u => u.cell? ⟨M,3,none⟩ = some (.slice (some ⟨b,off,none⟩) N cp) ∧ u.cell? ⟨b,off + i,none⟩ = some (.int .i64 bi) ∧ u.cell? ⟨M,2,none⟩ = some (.int .i64 32)) (by kernel_rfl) (show wr.drew.cell? _ = _ ∧ wr.drew.cell? _ = _ ∧ wr.drew.cell? _ = _ from ⟨c3,e0,c2⟩) (fun hHeld => ?_)
    refine tkD (i:=0) (v:=?_) rfl hHeld ?_
    (try simp only [Act.put,zA,zB,zC,zD,zE,zF])
    refine tkD (i:=1) (v:=?_) rfl hHeld ?_
    (try simp only [Act.put,zA,zB,zC,zD,zE,zF])
    refine tkD (i:=2) (v:=?_) rfl hHeld ?_
    (try simp only [Act.put,zA,zB,zC,zD,zE,zF])
    refine tkD (i:=3) (v:=?_) rfl hHeld ?_
    (try simp only [Act.put,zA,zB,zC,zD,zE,zF])
    refine tkD (i:=4) (v:=?_) rfl hHeld ?_
    (try simp only [Act.put,zA,zB,zC,zD,zE,zF])
    refine tkD (i:=5) (v:=?_) rfl hHeld ?_
    (try simp only [Act.put,zA,zB,zC,zD,zE,zF])
    refine tkD (i:=6) (v:=?_) rfl hHeld ?_
    (try simp only [Act.put,zA,zB,zC,zD,zE,zF])
    refine wpAnyD_step (i:=7) (by kernel_rfl) rfl (fun K hK9 => ?_)
    go_simp
    go_wp2_with fail
    refine HFc.out.mono ?_
    rintro e w5 ⟨rfl,k5⟩
    have kd5:=hid ((Kept.refl wr).drew.trans k5)
    have s5 : w5.cell? ⟨M,3,none⟩ = some (.slice (some ⟨b,off,none⟩) N cp) ∧ w5.cell? ⟨b,off + i,none⟩ = some (.int .i64 bi) ∧ w5.cell? ⟨M,2,none⟩ = some (.int .i64 32):=⟨(kd5.out.below.cell (p:=⟨M,3,none⟩) (World.block_lt_of_cell? _ _ c3)).trans c3,(kd5.out.below.cell (p:=⟨b,off + i,none⟩) (World.block_lt_of_cell? _ _ e0)).trans e0,(kd5.out.below.cell (p:=⟨M,2,none⟩) (World.block_lt_of_cell? _ _ c2)).trans c2⟩
    refine hK9.out _ _ s5 (fun hHeld2 => ?_)
    clear hK9 K k5
    (try simp only [Act.put,zA,zB,zC,zD,zE,zF])
    refine wpAnyD_late (i:=8) (by kernel_rfl) rfl rfl (fun K hK9 => ?_)
    go_simp
    refine hK9.out _ _ ?_
    clear hK9 K
    (try simp only [Act.put,zA,zB,zC,zD,zE,zF])
    refine wpAnyD_done (by kernel_rfl) ?_ _
    (try simp only [Act.put,zA,zB,zC,zD,zE,zF])
    clear hHeld hHeld2 s5 c0 c1 c2 c3 e0
    cases t with
    | true =>
     have hc3:=of_decide_eq_true HT.out
     go_wp2_with fail
     go_roundw
     case rel => exact ⟨i + 1,by omega,by go_num,HKr.out.trans kd5.out,HAs.out hc3⟩
     case measure => simp [intOf]; omega
    | false =>
     have hc3:=of_decide_eq_false HT.out
     go_wp2_with fail
     go_ret
     exact ⟨.inr ⟨HNoI.out hc3,rfl⟩,HK0.out.trans (HKr.out.trans kd5.out)⟩
   ·obtain rfl : i = N:=by omega
    go_wp2_with fail
    go_ret
    exact ⟨.inl ⟨HMk.out HAl.out,rfl⟩,HK0.out.trans HKr.out⟩
end Go.Proofs.Ytocjfdiimapojaa
