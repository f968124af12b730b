/- The document's Check. -/
import Derived.Test.YtocjfdiimapojaaZB
namespace Go.Proofs.Ytocjfdiimapojaa
open Go.ChangeShapes Go.WideShapes Go.ChangeAt Go.RowKit
set_option maxHeartbeats 16000000
set_option maxRecDepth 100000
set_option linter.unusedVariables false
set_option linter.unusedSimpArgs false
theorem rplace_any (n : Int) (w : World) : Calls Try.prog 58 #[.int .i64 n] w fun e w' => e = .returned (.bool (stepB n)) ∧ Kept w w':=by
 by_cases h1 : 0 ≤ n
 ·have d1 : decide (0 ≤ n) = true:=decide_eq_true h1
  by_cases h2 : n ≤ 1099511627776
  ·have d2 : decide (n ≤ 1099511627776) = true:=decide_eq_true h2
   have hb : stepB n = true:=decide_eq_true ⟨h1,h2⟩
   rw [hb]
   go_enter Try.func58,Try.ntmps58
   go_wp2
   go_ret
   exact ⟨rfl,Kept.refl _⟩
  ·have d2 : decide (n ≤ 1099511627776) = false:=decide_eq_false h2
   have hb : stepB n = false:=decide_eq_false (fun h => h2 h.2)
   rw [hb]
   go_enter Try.func58,Try.ntmps58
   go_wp2
   go_ret
   exact ⟨rfl,Kept.refl _⟩
 ·have d1 : decide (0 ≤ n) = false:=decide_eq_false h1
  have hb : stepB n = false:=decide_eq_false (fun h => h1 h.1)
  rw [hb]
  go_enter Try.func58,Try.ntmps58
  go_wp2
  go_ret
  exact ⟨rfl,Kept.refl _⟩
theorem matOk.len {m : Mat} (h : matOk m) : (m.n = 64 ∨ m.n = 32) ∧ m.L.length ≤ 4096:=by
 obtain ⟨h1,h2,h3,h4,h5,-⟩:=(matOk_iff m).1 h
 exact ⟨h1,by omega⟩
theorem rsize_any (r c n : Int) (L : List Int) (a : Option Addr) (cp : Nat) (hok : matOk ⟨r,c,n,L⟩) (w : World) : Calls Try.prog 60 #[.agg #[.int .i64 r,.int .i64 c,.int .i64 n,.slice a L.length cp]] w fun e w' => e = .returned (.int .i64 (szM ⟨r,c,n,L⟩)) ∧ Kept w w':=by
 obtain ⟨h1,h2⟩:=hok.len
 dsimp only at h1 h2
 have hz : szM ⟨r,c,n,L⟩ = 5 + Int.tdiv ((L.length : Int) * n) 8:=rfl
 rw [hz]
 have hw : IntKind.i64.wrap ((L.length : Int) * n) = (L.length : Int) * n:=by rcases h1 with rfl | rfl <;> (rw [wrap_i64]; omega)
 have hq : 0 ≤ Int.tdiv ((L.length : Int) * n) 8 ∧ Int.tdiv ((L.length : Int) * n) 8 ≤ 100000:=by
  rcases h1 with rfl | rfl
  all_goals
   rw [Int.tdiv_eq_ediv_of_nonneg (by omega)]
   omega
 have hw2 : IntKind.i64.wrap (5 + Int.tdiv ((L.length : Int) * n) 8) = 5 + Int.tdiv ((L.length : Int) * n) 8:=by rw [wrap_i64]; omega
 have hw3 : IntKind.i64.wrap (Int.tdiv ((L.length : Int) * n) 8) = Int.tdiv ((L.length : Int) * n) 8:=by rw [wrap_i64]; omega
 go_enter Try.func60,Try.ntmps60
 go_wp2
 go_ret
 exact ⟨rfl,(Kept.refl _).alloc _ _⟩
def CkR (p : Prop) (e : Ending) : Prop:=(p ∧ e = .returned (.int .i64 0)) ∨ (¬ p ∧ e = .returned (.int .i64 43))
theorem Oks.takeM {l : List Mat} {n : Nat} (h : ∀ (x : Nat) (m : Mat),l[x]? = some m → x < n → matOk m) : Oks (l.take n):=fun i m hi => by
 rw [List.getElem?_take] at hi
 split at hi
 ·exact h i m hi (by assumption)
 ·cases hi
theorem rcheck_any (v : Value) (s : Sta) (hpn : s.P.length ≤ 9223372036854775807) (hqn : s.Q.length ≤ 9223372036854775807) (hln : ∀ l ∈ s.Q,l.length ≤ 9223372036854775807) (hbn : (∀ m ∈ s.P,m.L.length ≤ 9223372036854775806) ∧ ∀ l ∈ s.Q,∀ m ∈ l,m.L.length ≤ 9223372036854775806) (hrg : SRg s) (w : World) (hS : StI w v s) :
  Calls Try.prog 39 #[v] w fun e w' => CkR (Frm s) e ∧ Kept w w':=by
 obtain ⟨pv,qv,rfl,⟨pa,pc,rfl,hpc,hpr⟩,⟨qa,qc,rfl,hqc,hqr⟩⟩:=hS
 have HP : Hid (∀ (i : Nat) (m : Mat),s.P[i]? = some m → ∃ B off a cp,pa = some ⟨B,off,none⟩ ∧ ∀ u,Kept w u → MC u B (off + i * 4) a cp m):=fun i m hi => by
  obtain ⟨B,off,e,h⟩:=hpr (by intro e; rw [e] at hi; simp at hi)
  obtain ⟨a,cp,hm⟩:=h i m hi
  exact ⟨B,off,a,cp,e,fun u ku => hm.kept ku⟩
 have HQ : Hid (∀ (i : Nat) (l : List Mat),s.Q[i]? = some l → ∃ B off la lc,qa = some ⟨B,off,none⟩ ∧ l.length ≤ lc ∧ (∀ u,Kept w u → u.cell? ⟨B,off + i,none⟩ = some (.slice la l.length lc)) ∧ ∀ (k : Nat) (m : Mat),l[k]? = some m → ∃ B2 off2 a cp,la = some ⟨B2,off2,none⟩ ∧ ∀ u,Kept w u → MC u B2 (off2 + k * 4) a cp m):=fun i l hi => by
  obtain ⟨B,off,e,h⟩:=hqr (by intro e; rw [e] at hi; simp at hi)
  obtain ⟨lv,h1,la,lc,rfl,hlc,hr⟩:=h i l hi
  refine ⟨B,off,la,lc,e,hlc,fun u ku => (ku.below.cell (p:=⟨B,off + i,none⟩) (World.block_lt_of_cell? _ _ h1)).trans h1,fun k m hk => ?_⟩
  obtain ⟨B2,off2,e2,h2⟩:=hr (by intro e; rw [e] at hk; simp at hk)
  obtain ⟨a,cp,hm⟩:=h2 k m hk
  exact ⟨B2,off2,a,cp,e2,fun u ku => hm.kept ku⟩
 have HMt : Hid (∀ (m : Mat) (a : Option Addr) (cp B o : Nat) (u : World),(m ∈ s.P ∨ ∃ l ∈ s.Q,m ∈ l) → MC u B o a cp m → Calls Try.prog 59 #[.agg #[.int .i64 m.r,.int .i64 m.c,.int .i64 m.n,.slice a m.L.length cp]] u fun e w' => RBo (matOk m) e ∧ Kept u w'):=fun m a cp B o u hm mc => by
  have h1 : m.L.length ≤ 9223372036854775806:=by
   rcases hm with hm | ⟨l,hl,hm⟩
   ·exact hbn.1 m hm
   ·exact hbn.2 l hl m hm
  have h2 : MRg m:=by
   rcases hm with hm | ⟨l,hl,hm⟩
   ·exact hrg.p m hm
   ·exact hrg.q l hl m hm
  exact rmat_any m.r m.c m.n m.L a cp h1 h2 u mc.sl
 have HSz : Hid (∀ (m : Mat) (a : Option Addr) (cp : Nat) (u : World),matOk m → Calls Try.prog 60 #[.agg #[.int .i64 m.r,.int .i64 m.c,.int .i64 m.n,.slice a m.L.length cp]] u fun e w' => e = .returned (.int .i64 (szM m)) ∧ Kept u w'):=fun m a cp u h => rsize_any m.r m.c m.n m.L a cp h u
 have HLN:=hid (show ∀ (i : Nat) (l : List Mat),s.Q[i]? = some l → l.length ≤ 9223372036854775807 from fun i l hi => hln l (List.mem_of_getElem? hi))
 have HPlc:=hid (show ∀ (n : Int) (u : World),Calls Try.prog 58 #[.int .i64 n] u fun e w' => e = .returned (.bool (stepB n)) ∧ Kept u w' from rplace_any)
 have HFr : Hid (stepB s.a = true → stepB s.b = true → stepB s.d = true → s.P.length ≤ 64 → s.Q.length ≤ 64 → Oks s.P → Qks s.Q → Frm s):=fun a b d pl ql p q => ⟨a,b,d,pl,ql,p,q⟩
 have HFn:=hid (show Frm s → stepB s.a = true ∧ stepB s.b = true ∧ stepB s.d = true ∧ s.P.length ≤ 64 ∧ s.Q.length ≤ 64 ∧ Oks s.P ∧ Qks s.Q from fun h => ⟨h.a,h.b,h.d,h.pl,h.ql,h.p,h.q⟩)
 clear hpr hqr hln hbn hrg
 obtain ⟨pl,hpl⟩ : ∃ pl,s.P.length = pl:=⟨_,rfl⟩
 obtain ⟨n,hn⟩ : ∃ n,s.Q.length = n:=⟨_,rfl⟩
 rw [hpl] at hpn hpc HFr HFn ⊢
 rw [hn] at hqn hqc HFr HFn ⊢
 have HPl:=hid hpl
 have HNn:=hid hn
 have HB:=hid (show pl ≤ 9223372036854775807 ∧ n ≤ 9223372036854775807 ∧ pl ≤ pc ∧ n ≤ qc from ⟨hpn,hqn,hpc,hqc⟩)
 clear hpl hn hpn hqn hpc hqc
 generalize hsa : s.a = sa at *
 generalize hsb : s.b = sb at *
 generalize hsd : s.d = sd at *
 generalize hlo : s.lo = lo at *
 generalize hra : s.ra = ra at *
 clear hsa hsb hsd hlo hra
 obtain ⟨ba,hba⟩ : ∃ b,stepB sa = b:=⟨_,rfl⟩
 obtain ⟨bb,hbb⟩ : ∃ b,stepB sb = b:=⟨_,rfl⟩
 obtain ⟨bd,hbd⟩ : ∃ b,stepB sd = b:=⟨_,rfl⟩
 rw [hba,hbb,hbd] at HFr HFn
 have HPa:=hid (hba ▸ HPlc.out sa)
 have HPb:=hid (hbb ▸ HPlc.out sb)
 have HPd:=hid (hbd ▸ HPlc.out sd)
 clear hba hbb hbd HPlc
 obtain ⟨M,hM⟩ : ∃ M,w.heap.size = M:=⟨_,rfl⟩
 obtain ⟨W0,hW0⟩ : ∃ W0,w.alloc (.cells #[.int .i64 sa,.int .i64 sb,.int .i64 sd,.slice pa pl pc,.slice qa n qc,.int .i64 lo,.int .i64 ra] 35) = W0:=⟨_,rfl⟩
 have k0 : Kept w W0:=by rw [← hW0]; exact (Kept.refl w).alloc _ _
 have b0 : Bk W0 M [.int .i64 sa,.int .i64 sb,.int .i64 sd,.slice pa pl pc,.slice qa n qc,.int .i64 lo,.int .i64 ra]:=by rw [← hW0,← hM]; exact Bk.new w _ _
 have HK0:=hid k0
 have HBk:=hid (show ∀ u,Kept W0 u → u.cell? ⟨M,0,none⟩ = some (.int .i64 sa) ∧ u.cell? ⟨M,1,none⟩ = some (.int .i64 sb) ∧ u.cell? ⟨M,2,none⟩ = some (.int .i64 sd) ∧ u.cell? ⟨M,3,none⟩ = some (.slice pa pl pc) ∧ u.cell? ⟨M,4,none⟩ = some (.slice qa n qc) from fun u ku => ⟨(b0.kept ku).c 0 _ rfl,(b0.kept ku).c 1 _ rfl,(b0.kept ku).c 2 _ rfl,(b0.kept ku).c 3 _ rfl,(b0.kept ku).c 4 _ rfl⟩)
 clear k0 b0
 obtain ⟨x0,x1,x2,x3,x4⟩:=HBk.out W0 (Kept.refl _)
 go_enter Try.func39,Try.ntmps39
 go_wp2_with fail
 go_at_call 58
 refine (HPa.out W0).mono ?_
 rintro e w1 ⟨rfl,k1⟩
 have K1:=hid k1
 clear k1 hM hW0 x0 x1 x2 x3 x4
 obtain ⟨x0,x1,x2,x3,x4⟩:=HBk.out w1 K1.out
 cases ba with
 | false =>
  have HNo:=hid (show ¬ Frm s from fun h => by have:=(HFn.out h).1; cases this)
  go_wp2_with fail
  go_ret
  exact ⟨.inr ⟨HNo.out,rfl⟩,HK0.out.trans K1.out⟩
 | true =>
 go_wp2_with fail
 go_at_call 58
 refine (HPb.out w1).mono ?_
 rintro e w2 ⟨rfl,k2⟩
 have K2:=hid (K1.out.trans k2)
 clear k2 K1 x0 x1 x2 x3 x4
 obtain ⟨x0,x1,x2,x3,x4⟩:=HBk.out w2 K2.out
 cases bb with
 | false =>
  have HNo:=hid (show ¬ Frm s from fun h => by have:=(HFn.out h).2.1; cases this)
  go_wp2_with fail
  go_ret
  exact ⟨.inr ⟨HNo.out,rfl⟩,HK0.out.trans K2.out⟩
 | true =>
 go_wp2_with fail
 go_at_call 58
 refine (HPd.out w2).mono ?_
 rintro e w3 ⟨rfl,k3⟩
 have K3:=hid (K2.out.trans k3)
 clear k3 K2 x0 x1 x2 x3 x4
 obtain ⟨x0,x1,x2,x3,x4⟩:=HBk.out w3 K3.out
 cases bd with
 | false =>
  have HNo:=hid (show ¬ Frm s from fun h => by have:=(HFn.out h).2.2.1; cases this)
  go_wp2_with fail
  go_ret
  exact ⟨.inr ⟨HNo.out,rfl⟩,HK0.out.trans K3.out⟩
 | true =>
 by_cases hp : 64 < pl
 ·have d1 : decide (64 < (pl : Int)) = true:=decide_eq_true (by omega)
  have d2 : decide (64 < pl) = true:=decide_eq_true hp
  have HNo:=hid (show ¬ Frm s from fun h => by have:=(HFn.out h).2.2.2.1; omega)
  go_wp2_with fail
  go_ret
  exact ⟨.inr ⟨HNo.out,rfl⟩,HK0.out.trans K3.out⟩
 by_cases hq : 64 < n
 ·have d0 : decide (64 < (pl : Int)) = false:=decide_eq_false (by omega)
  have d00 : decide (64 < pl) = false:=decide_eq_false hp
  have d1 : decide (64 < (n : Int)) = true:=decide_eq_true (by omega)
  have d2 : decide (64 < n) = true:=decide_eq_true hq
  have HNo:=hid (show ¬ Frm s from fun h => by have:=(HFn.out h).2.2.2.2.1; omega)
  go_wp2_with fail
  go_ret
  exact ⟨.inr ⟨HNo.out,rfl⟩,HK0.out.trans K3.out⟩
 have d0 : decide (64 < (pl : Int)) = false:=decide_eq_false (by omega)
 have d00 : decide (64 < pl) = false:=decide_eq_false hp
 have d1 : decide (64 < (n : Int)) = false:=decide_eq_false (by omega)
 have d2 : decide (64 < n) = false:=decide_eq_false hq
 have HF64:=hid (show pl ≤ 64 ∧ n ≤ 64 by omega)
 clear hp hq
 go_wp2_with fail
 go_loopw [3,4] (fun sv iv wr => ∃ i : Nat,i ≤ pl ∧ sv = .int .i64 (52 + szl (s.P.take i)) ∧ iv = .int .i64 (i : Int) ∧ Kept W0 wr ∧ ∀ (x : Nat) (m : Mat),s.P[x]? = some m → x < i → matOk m) (fun _ iv _ => pl - (intOf iv).toNat)
 case atStart => exact ⟨0,Nat.zero_le _,rfl,rfl,K3.out,fun x m _ h => by omega⟩
 case round =>
  clear x0 x1 x2 x3 x4 K3
  obtain ⟨i,hi,rfl,rfl,kr,hok⟩:=hrel
  have HOk:=hid hok
  obtain ⟨x0,x1,x2,x3,x4⟩:=HBk.out wr kr
  have KR:=hid kr
  have hz:=szl_rng (Oks.takeM hok)
  have hz2 : (s.P.take i).length ≤ 64:=by rw [List.length_take]; have:=HF64.out; omega
  have HZ:=hid (show 0 ≤ szl (s.P.take i) ∧ szl (s.P.take i) ≤ 2560000 by omega)
  have HI:=hid hi
  clear hok kr hz hz2
  by_cases hin : i < pl
  ·obtain ⟨m,hm⟩ : ∃ m,s.P[i]? = some m:=⟨_,List.getElem?_eq_getElem (by rw [HPl.out]; exact hin)⟩
   obtain ⟨B,off,a,cp,rfl,hc⟩:=HP.out i m hm
   have mc:=hc _ (HK0.out.trans KR.out)
   have HMc:=hid (HMt.out m a cp _ _ wr (.inl (List.mem_of_getElem? hm)) mc)
   have HSc:=hid (HSz.out m a cp)
   have HStp:=hid (szl_step i m hm)
   have HGet:=hid (show ∀ (x : Nat) (m2 : Mat),matOk m → s.P[x]? = some m2 → x < i + 1 → matOk m2 from fun x m2 h h2 h3 => by
    by_cases hx : x < i
    ·exact HOk.out x m2 h2 hx
    ·obtain rfl : x = i:=by omega
     rw [hm] at h2; cases h2; exact h)
   have HNoM:=hid (show ¬ matOk m → ¬ Frm s from fun h f => h ((HFn.out f).2.2.2.2.2.1 i m hm))
   have HC:=hid hc
   obtain ⟨c0,c1,c2,c3,-⟩:=mc
   have hb1 : (0 : Int) ≤ (i : Int) ∧ (i : Int) < (pl : Int):=by omega
   have hb2 : (i : Int) < (pl : Int):=by omega
   have z2 : IntKind.i64.wrap ((i : Int) + 1) = (i : Int) + 1:=by have:=HF64.out; rw [wrap_i64]; omega
   have HII:=hid hin
   obtain ⟨r,c,nn,L⟩:=m
   dsimp only at c0 c1 c2 c3 HMc HSc
   clear hc hm HP HQ hin hi HMt HSz
   obtain ⟨ll,hLl⟩ : ∃ ll,L.length = ll:=⟨_,rfl⟩
   rw [hLl] at c3 HMc HSc
   go_wp2_with fail
   go_at_call 59
   refine HMc.out.mono ?_
   rintro e w5 ⟨hrb,k5⟩
   have K5:=hid (KR.out.trans k5)
   have mc5:=HC.out w5 (HK0.out.trans K5.out)
   clear x0 x1 x2 x3 x4 c0 c1 c2 c3
   obtain ⟨x0,x1,x2,x3,x4⟩:=HBk.out w5 K5.out
   rcases (show _ ∨ _ from hrb) with ⟨hmo,rfl⟩ | ⟨hmo,rfl⟩
   ·have HMo:=hid hmo
    obtain ⟨t,ht⟩ : ∃ t,szM ⟨r,c,nn,L⟩ = t:=⟨_,rfl⟩
    have HSd:=hid (HSc.out w5 hmo)
    rw [ht] at HSd HStp
    have ht2:=szM_rng hmo
    rw [ht] at ht2
    have HT:=hid (show 5 ≤ t ∧ t ≤ 40000 from ⟨ht2.1,ht2.2.1⟩)
    obtain ⟨c0,c1,c2,c3,-⟩:=mc5
    dsimp only at c0 c1 c2 c3 HSd
    have zt : IntKind.i64.wrap (52 + szl (s.P.take i) + t) = 52 + szl (s.P.take i) + t:=by have:=HZ.out; have:=HT.out; rw [wrap_i64]; omega
    rw [hLl] at c3
    generalize hgz : szl (s.P.take i) = z at *
    clear hmo hrb k5 ht ht2 HSc
    go_wp2_with fail
    go_at_call 60
    refine HSd.out.mono ?_
    rintro e w6 ⟨rfl,k6⟩
    have K6:=hid (K5.out.trans k6)
    go_wp2_with fail
    go_roundw
    case rel => exact ⟨i + 1,by have:=HII.out; omega,by rw [HStp.out,← Int.add_assoc],by go_num,K6.out,fun x m2 h2 h3 => HGet.out x m2 HMo.out h2 h3⟩
    case measure => have:=HII.out; simp [intOf]; omega
   ·have HNo:=hid (HNoM.out hmo)
    clear hmo hrb mc5 k5
    go_wp2_with fail
    go_ret
    exact ⟨.inr ⟨HNo.out,rfl⟩,HK0.out.trans K5.out⟩
  ·obtain rfl : i = pl:=by omega
   have htk : s.P.take i = s.P:=List.take_of_length_le (by rw [HPl.out]; exact Nat.le_refl _)
   have HOP : Hid (Oks s.P):=fun x m h => HOk.out x m h (by have:=(List.getElem?_eq_some_iff.1 h).1; rw [HPl.out] at this; exact this)
   rw [htk] at HZ ⊢
   clear hin hi HP htk
   go_wp2_with fail
   go_loopw [3,6] (fun sv iv wr => ∃ j : Nat,j ≤ n ∧ sv = .int .i64 (52 + szl s.P + szq (s.Q.take j)) ∧ iv = .int .i64 (j : Int) ∧ Kept W0 wr ∧ Qks (s.Q.take j)) (fun _ iv _ => n - (intOf iv).toNat)
   case atStart => exact ⟨0,Nat.zero_le _,by simp [szq],rfl,KR.out,fun x m h => by simp at h⟩
   case round =>
    clear x0 x1 x2 x3 x4 KR HOk HI
    obtain ⟨j,hj,rfl,rfl,kr,hok⟩:=hrel
    have HOk:=hid hok
    obtain ⟨x0,x1,x2,x3,x4⟩:=HBk.out _ kr
    have KR:=hid kr
    have hz:=szq_rng hok
    have hz2 : (s.Q.take j).length ≤ 64:=by rw [List.length_take]; have:=HF64.out; omega
    have HY:=hid (show 0 ≤ szq (s.Q.take j) ∧ szq (s.Q.take j) ≤ 10240064 by omega)
    clear hok kr hz hz2
    by_cases hjn : j < n
    ·obtain ⟨l,hl⟩ : ∃ l,s.Q[j]? = some l:=⟨_,List.getElem?_eq_getElem (by rw [HNn.out]; exact hjn)⟩
     obtain ⟨B,off,la,lc,rfl,hlc,hc,hin3⟩:=HQ.out j l hl
     have c3:=hc _ (HK0.out.trans KR.out)
     have hb1 : (0 : Int) ≤ (j : Int) ∧ (j : Int) < (n : Int):=by omega
     have hb2 : (j : Int) < (n : Int):=by omega
     have z2 : IntKind.i64.wrap ((j : Int) + 1) = (j : Int) + 1:=by have:=HF64.out; rw [wrap_i64]; omega
     have HLl:=hid (HLN.out j l hl)
     have HMem : Hid (∀ m ∈ l,∃ l ∈ s.Q,m ∈ l):=fun m hm => ⟨l,List.mem_of_getElem? hl,hm⟩
     have HNoL:=hid (show 4 < l.length → ¬ Frm s from fun h f => by have:=((HFn.out f).2.2.2.2.2.2 j l hl).1; omega)
     have HNoM:=hid (show ∀ (k : Nat) (m : Mat),l[k]? = some m → ¬ matOk m → ¬ Frm s from fun k m hk h f => h (((HFn.out f).2.2.2.2.2.2 j l hl).2 k m hk))
     have HStp:=hid (szq_step j l hl)
     have HGet:=hid (show l.length ≤ 4 → Oks l → Qks (s.Q.take (j + 1)) from fun h1 h2 x l2 hx => by
      rw [List.getElem?_take] at hx
      split at hx
      ·by_cases hxj : x < j
       ·exact HOk.out x l2 (by rw [List.getElem?_take,if_pos hxj]; exact hx)
       ·obtain rfl : x = j:=by omega
        rw [hl] at hx; cases hx; exact ⟨h1,h2⟩
      ·cases hx)
     obtain ⟨q,hq⟩ : ∃ q,l.length = q:=⟨_,rfl⟩
     rw [hq] at c3 HLl hlc
     have HL:=hid hq
     have HL3:=hid hin3
     have HJ:=hid hjn
     have HC3:=hid hc
     clear hc hl HQ hjn hj hq hin3 hlc HOk
     generalize hgy : szq (s.Q.take j) = y at *
     clear hgy
     by_cases hq4 : 4 < q
     ·have d3 : decide (4 < (q : Int)) = true:=decide_eq_true (by omega)
      have d4 : decide (4 < q) = true:=decide_eq_true hq4
      have HNo:=hid (HNoL.out (by rw [HL.out]; exact hq4))
      go_wp2_with fail
      go_ret
      exact ⟨.inr ⟨HNo.out,rfl⟩,HK0.out.trans KR.out⟩
     have d3 : decide (4 < (q : Int)) = false:=decide_eq_false (by omega)
     have d4 : decide (4 < q) = false:=decide_eq_false hq4
     have HQ4:=hid hq4
     have zy : IntKind.i64.wrap (52 + szl s.P + y + 1) = 52 + szl s.P + y + 1:=by have:=HZ.out; have:=HY.out; rw [wrap_i64]; omega
     clear hq4
     generalize hgp : szl s.P = zp at *
     go_wp2_with fail
     go_loopw [3,7] (fun sv iv wr => ∃ k : Nat,k ≤ q ∧ sv = .int .i64 (52 + zp + y + 1 + szl (l.take k)) ∧ iv = .int .i64 (k : Int) ∧ Kept W0 wr ∧ ∀ (x : Nat) (m : Mat),l[x]? = some m → x < k → matOk m) (fun _ iv _ => q - (intOf iv).toNat)
     case atStart => exact ⟨0,Nat.zero_le _,by simp [szl],rfl,KR.out,fun x m _ h => by omega⟩
     case round =>
      clear x0 x1 x2 x3 x4 c3 KR d3 d4
      obtain ⟨k,hk,rfl,rfl,kr,hok⟩:=hrel
      have HOk:=hid hok
      obtain ⟨x0,x1,x2,x3,x4⟩:=HBk.out _ kr
      have c3:=HC3.out _ (HK0.out.trans kr)
      rw [HL.out] at c3
      have KR:=hid kr
      have hz:=szl_rng (Oks.takeM hok)
      have hz2 : (l.take k).length ≤ 4:=by rw [List.length_take]; have:=HQ4.out; have:=HL.out; omega
      have HX:=hid (show 0 ≤ szl (l.take k) ∧ szl (l.take k) ≤ 160000 by omega)
      clear hok kr hz hz2
      by_cases hkn : k < q
      ·obtain ⟨m,hm⟩ : ∃ m,l[k]? = some m:=⟨_,List.getElem?_eq_getElem (by rw [HL.out]; exact hkn)⟩
       obtain ⟨B2,off2,a,cp,rfl,hc⟩:=HL3.out k m hm
       have mc:=hc _ (HK0.out.trans KR.out)
       have HMc:=hid (HMt.out m a cp _ _ _ (.inr (HMem.out m (List.mem_of_getElem? hm))) mc)
       have HSc:=hid (HSz.out m a cp)
       have HStp2:=hid (szl_step k m hm)
       have HGet2:=hid (show ∀ (x : Nat) (m2 : Mat),matOk m → l[x]? = some m2 → x < k + 1 → matOk m2 from fun x m2 h h2 h3 => by
        by_cases hx : x < k
        ·exact HOk.out x m2 h2 hx
        ·obtain rfl : x = k:=by omega
         rw [hm] at h2; cases h2; exact h)
       have HNoM2:=hid (HNoM.out k m hm)
       have HC:=hid hc
       obtain ⟨e0,e1,e2,e3,-⟩:=mc
       have hb3 : (0 : Int) ≤ (k : Int) ∧ (k : Int) < (q : Int):=by omega
       have hb4 : (k : Int) < (q : Int):=by omega
       have z4 : IntKind.i64.wrap ((k : Int) + 1) = (k : Int) + 1:=by have:=HQ4.out; rw [wrap_i64]; omega
       have HII:=hid hkn
       obtain ⟨r,c,nn,L⟩:=m
       dsimp only at e0 e1 e2 e3 HMc HSc
       obtain ⟨ll,hLl⟩ : ∃ ll,L.length = ll:=⟨_,rfl⟩
       rw [hLl] at e3 HMc HSc
       clear hc hm HL3 hkn hk HMt HSz HNoM
       go_wp2_with fail
       go_at_call 59
       refine HMc.out.mono ?_
       rintro e w5 ⟨hrb,k5⟩
       have K5:=hid (KR.out.trans k5)
       have mc5:=HC.out w5 (HK0.out.trans K5.out)
       clear x0 x1 x2 x3 x4 e0 e1 e2 e3 c3
       obtain ⟨x0,x1,x2,x3,x4⟩:=HBk.out w5 K5.out
       have c3:=HC3.out _ (HK0.out.trans K5.out)
       rw [HL.out] at c3
       rcases (show _ ∨ _ from hrb) with ⟨hmo,rfl⟩ | ⟨hmo,rfl⟩
       ·have HMo:=hid hmo
        obtain ⟨t,ht⟩ : ∃ t,szM ⟨r,c,nn,L⟩ = t:=⟨_,rfl⟩
        have HSd:=hid (HSc.out w5 hmo)
        rw [ht] at HSd HStp2
        have ht2:=szM_rng hmo
        rw [ht] at ht2
        have HT:=hid (show 5 ≤ t ∧ t ≤ 40000 from ⟨ht2.1,ht2.2.1⟩)
        obtain ⟨e0,e1,e2,e3,-⟩:=mc5
        dsimp only at e0 e1 e2 e3 HSd
        have zt : IntKind.i64.wrap (52 + zp + y + 1 + szl (l.take k) + t) = 52 + zp + y + 1 + szl (l.take k) + t:=by have:=HZ.out; have:=HT.out; have:=HX.out; have:=HY.out; rw [wrap_i64]; omega
        rw [hLl] at e3
        generalize hgz : szl (l.take k) = z at *
        clear hmo hrb k5 ht ht2 HSc
        go_wp2_with fail
        go_at_call 60
        refine HSd.out.mono ?_
        rintro e w6 ⟨rfl,k6⟩
        have K6:=hid (K5.out.trans k6)
        go_wp2_with fail
        go_roundw
        case rel => exact ⟨k + 1,by have:=HII.out; omega,by rw [HStp2.out,← Int.add_assoc],by go_num,K6.out,fun x m2 h2 h3 => HGet2.out x m2 HMo.out h2 h3⟩
        case measure => have:=HII.out; simp [intOf]; omega
       ·have HNo:=hid (HNoM2.out hmo)
        clear hmo hrb mc5 k5
        go_wp2_with fail
        go_ret
        exact ⟨.inr ⟨HNo.out,rfl⟩,HK0.out.trans K5.out⟩
      ·obtain rfl : k = q:=by omega
       have htk : l.take k = l:=List.take_of_length_le (by rw [HL.out]; exact Nat.le_refl _)
       have HOl : Hid (Oks l):=fun x m h => HOk.out x m h (by have:=(List.getElem?_eq_some_iff.1 h).1; rw [HL.out] at this; exact this)
       rw [htk]
       clear hkn hk htk
       go_wp2_with fail
       go_roundw
       case rel => exact ⟨j + 1,by have:=HJ.out; omega,by rw [HStp.out]; congr 1; omega,by go_num,KR.out,HGet.out (by have:=HQ4.out; have:=HL.out; omega) HOl.out⟩
       case measure => have:=HJ.out; simp [intOf]; omega
    ·obtain rfl : j = n:=by omega
     have htk : s.Q.take j = s.Q:=List.take_of_length_le (by rw [HNn.out]; exact Nat.le_refl _)
     have hoq:=HOk.out
     rw [htk] at hoq HY ⊢
     have HFrm:=hid (HFr.out (by first | rfl | trivial) (by first | rfl | trivial) (by first | rfl | trivial) HF64.out.1 HF64.out.2 HOP.out hoq)
     have d5 : decide (16777216 < 52 + szl s.P + szq s.Q) = false:=decide_eq_false (by have:=HZ.out; have:=HY.out; omega)
     clear hjn hj HQ htk hoq HOk
     generalize szl s.P = zp at *
     generalize szq s.Q = zq at *
     go_wp2_with fail
     go_ret
     exact ⟨.inl ⟨HFrm.out,rfl⟩,HK0.out.trans KR.out⟩
end Go.Proofs.Ytocjfdiimapojaa
