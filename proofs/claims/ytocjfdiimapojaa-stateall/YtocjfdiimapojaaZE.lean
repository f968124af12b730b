/- The document's Write. -/
import Derived.Test.YtocjfdiimapojaaZD
namespace Go.Proofs.Ytocjfdiimapojaa
open Go.ChangeShapes Go.WideShapes Go.ChangeAt Go.RowKit
set_option maxHeartbeats 16000000
set_option maxRecDepth 100000
set_option linter.unusedVariables false
set_option linter.unusedSimpArgs false
theorem wqs_room {Q : List (List Mat)} (i : Nat) (l : List Mat) (h : Q[i]? = some l) : (wqs (Q.take i)).length + 1 + (wls l).length ≤ (wqs Q).length:=by
 have h1:=wqs_step i l h
 have h2 : wqs Q = wqs (Q.take (i + 1)) ++ wqs (Q.drop (i + 1)):=by rw [← wqs_app,List.take_append_drop]
 rw [h2,h1]
 simp only [List.length_append,le_len]
 omega
theorem enc_room (s : Sta) : (enc s).length = 52 + (wls s.P).length + (wqs s.Q).length:=by
 unfold enc wbody
 simp only [List.length_append,le_len,wbits_len,mkL,List.length_cons,List.length_nil]
 omega
def RWr (H : Nat) (s : Sta) (e : Ending) (w' : World) : Prop:=(Frm s ∧ ∃ v',e = .returned (.tuple #[v',.int .i64 0]) ∧ BN 0 w' v' (enc s) ∧ ∀ b,blk v' b → H ≤ b) ∨ (¬ Frm s ∧ e = .returned (.tuple #[.slice none 0 0,.int .i64 43]))
theorem rwrite_any (v : Value) (s : Sta) (hpn : s.P.length ≤ 9223372036854775807) (hqn : s.Q.length ≤ 9223372036854775807) (hln : ∀ l ∈ s.Q,l.length ≤ 9223372036854775807) (hbn : (∀ m ∈ s.P,m.L.length ≤ 9223372036854775806) ∧ ∀ l ∈ s.Q,∀ m ∈ l,m.L.length ≤ 9223372036854775806) (hrg : SRg s) (hT : Frm s → (enc s).length ≤ 90000000) (w : World) (hS : StI w v s) :
  Calls Try.prog 21 #[v] w fun e w' => RWr w.heap.size s e w' ∧ Kept w w':=by
 have HCk:=hid (show ∀ u,Kept w u → Calls Try.prog 39 #[v] u fun e w' => CkR (Frm s) e ∧ Kept u w' from fun u ku => rcheck_any v s hpn hqn hln hbn hrg u (hS.kept ku))
 obtain ⟨pv,qv,rfl,⟨pa,pc,rfl,hpc,hpr⟩,⟨qa,qc,rfl,hqc,hqr⟩⟩:=hS
 have HP : Hid (∀ (i : Nat) (m : Mat),s.P[i]? = some m → ∃ B off a cp,pa = some ⟨B,off,none⟩ ∧ ∀ u,Kept w u → MC u B (off + i * 4) a cp m):=fun i m hi => by
  obtain ⟨B,off,e,h⟩:=hpr (by intro e; rw [e] at hi; simp at hi)
  obtain ⟨a,cp,hm⟩:=h i m hi
  exact ⟨B,off,a,cp,e,fun u ku => hm.kept ku⟩
 have HQ : Hid (∀ (i : Nat) (l : List Mat),s.Q[i]? = some l → ∃ B off la lc,qa = some ⟨B,off,none⟩ ∧ l.length ≤ lc ∧ (∀ u,Kept w u → u.cell? ⟨B,off + i,none⟩ = some (.slice la l.length lc)) ∧ ∀ (k : Nat) (m : Mat),l[k]? = some m → ∃ B2 off2 a cp,la = some ⟨B2,off2,none⟩ ∧ ∀ u,Kept w u → MC u B2 (off2 + k * 4) a cp m):=fun i l hi => by
  obtain ⟨B,off,e,h⟩:=hqr (by intro e; rw [e] at hi; simp at hi)
  obtain ⟨lv,h1,la,lc,rfl,hlc,hr⟩:=h i l hi
  refine ⟨B,off,la,lc,e,hlc,fun u ku => (ku.below.cell (p:=⟨B,off + i,none⟩) (World.block_lt_of_cell? _ _ h1)).trans h1,fun k m hk => ?_⟩
  obtain ⟨B2,off2,e2,h2⟩:=hr (by intro e; rw [e] at hk; simp at hk)
  obtain ⟨a,cp,hm⟩:=h2 k m hk
  exact ⟨B2,off2,a,cp,e2,fun u ku => hm.kept ku⟩
 clear hpr hqr hln hbn hrg
 have HS:=hid (show (enc s).length = 52 + (wls s.P).length + (wqs s.Q).length from enc_room s)
 have hEnc : (enc s = mkL ++ le 8 s.a ++ le 8 s.b ++ le 8 s.d ++ le 8 s.lo ++ le 8 s.ra ++ le 2 s.P.length ++ wls s.P ++ le 2 s.Q.length ++ wqs s.Q ++ le 4 (sumB (wbody s)) ∧ wbody s = mkL ++ le 8 s.a ++ le 8 s.b ++ le 8 s.d ++ le 8 s.lo ++ le 8 s.ra ++ le 2 s.P.length ++ wls s.P ++ le 2 s.Q.length ++ wqs s.Q):=by
  unfold enc wbody
  simp only [wbits,List.append_assoc,List.append_nil,and_self]
 have HEnc:=hid hEnc
 clear hEnc
 have HBy:=hid (byt_body s)
 obtain ⟨pl,hpl⟩ : ∃ pl,s.P.length = pl:=⟨_,rfl⟩
 obtain ⟨n,hn⟩ : ∃ n,s.Q.length = n:=⟨_,rfl⟩
 have HFq:=hid (show Frm s → pl ≤ 64 ∧ n ≤ 64 ∧ Oks s.P ∧ Qks s.Q from fun h => ⟨by rw [← hpl]; exact h.pl,by rw [← hn]; exact h.ql,h.p,h.q⟩)
 rw [hpl] at hpn hpc HCk HEnc ⊢
 rw [hn] at hqn hqc HCk HEnc ⊢
 have HPl:=hid hpl
 have HNn:=hid hn
 have HB:=hid (show pl ≤ 9223372036854775807 ∧ n ≤ 9223372036854775807 ∧ pl ≤ pc ∧ n ≤ qc from ⟨hpn,hqn,hpc,hqc⟩)
 have HT:=hid hT
 clear hpl hn hpn hqn hpc hqc hT
 generalize hsa : s.a = sa at *
 generalize hsb : s.b = sb at *
 generalize hsd : s.d = sd at *
 generalize hlo : s.lo = lo at *
 generalize hra : s.ra = ra at *
 clear hsa hsb hsd hlo hra
 have HPut:=hid (show ∀ (v : Value) (L : List Int) (n : Int) (k : Nat) (w : World),k ≤ 8 → L.length < 99990000 → BN 0 w v L → Calls Try.prog 40 #[v,.int .i64 n,.int .i64 (k : Int)] w fun e w' => ∃ v',e = .returned v' ∧ BN 0 w' v' (L ++ le k n) ∧ PP w w' v v' from fun v L n k w hk hl hb => put_any v L n k hk hl w hb)
 obtain ⟨M,hM⟩ : ∃ M,w.heap.size = M:=⟨_,rfl⟩
 obtain ⟨W0,hW0⟩ : ∃ W0,w.alloc (.cells #[.int .i64 sa,.int .i64 sb,.int .i64 sd,.slice pa pl pc,.slice qa n qc,.int .i64 lo,.int .i64 ra] 35) = W0:=⟨_,rfl⟩
 have k0 : Kept w W0:=by rw [← hW0]; exact (Kept.refl w).alloc _ _
 have b0 : Bk W0 M [.int .i64 sa,.int .i64 sb,.int .i64 sd,.slice pa pl pc,.slice qa n qc,.int .i64 lo,.int .i64 ra]:=by rw [← hW0,← hM]; exact Bk.new w _ _
 have HK0:=hid k0
 have HM:=hid hM
 have hs0:=hid (show W0.heap.size = M + 1 by rw [← hW0,World.size_alloc,hM])
 have HBk0:=hid b0
 obtain ⟨x0,x1,x2,x3,x4,x5,x6⟩ : _ ∧ _ ∧ _ ∧ _ ∧ _ ∧ _ ∧ _:=⟨b0.c 0 _ rfl,b0.c 1 _ rfl,b0.c 2 _ rfl,b0.c 3 _ rfl,b0.c 4 _ rfl,b0.c 5 _ rfl,b0.c 6 _ rfl⟩
 clear k0 b0
 go_enter Try.func21,Try.ntmps21
 go_wp2_with fail
 go_at_call 39
 refine (HCk.out W0 HK0.out).mono ?_
 rintro e w1 ⟨hck,k1⟩
 have K1:=hid k1
 have KW1:=hid (HK0.out.trans k1)
 clear x0 x1 x2 x3 x4 x5 x6 hM hW0 k1
 rcases (show _ ∨ _ from hck).symm with ⟨hF,rfl⟩ | ⟨hF,rfl⟩
 ·have HNo:=hid hF
  clear hF hck
  go_wp2_with fail
  refine bodyPost_ret (v:=.tuple #[.slice none 0 0,.int .i64 43]) (by simp [results,Try.results21,go_sem]) rfl ?_
  exact ⟨.inr ⟨HNo.out,rfl⟩,KW1.out⟩
 have HFr:=hid hF
 obtain ⟨f1,f2,f3,f4⟩:=HFq.out hF
 have HF64:=hid (show pl ≤ 64 ∧ n ≤ 64 from ⟨f1,f2⟩)
 have HOP:=hid f3
 have HOQ:=hid f4
 have hlen:=HT.out hF
 rw [HS.out] at hlen
 have HLen:=hid hlen
 obtain ⟨G,hG⟩ : ∃ G,w1.heap.size = G:=⟨_,rfl⟩
 obtain ⟨W1,hW1⟩ : ∃ W1,w1.alloc (.cells #[.int .u8 112,.int .u8 115,.int .u8 116,.int .u8 1] 5) = W1:=⟨_,rfl⟩
 have kw1 : Kept w1 W1:=by rw [← hW1]; exact (Kept.refl w1).alloc _ _
 have KW:=hid (KW1.out.trans kw1)
 have hGM : M < G:=by have:=(HBk0.out.kept K1.out).lt; omega
 have HGM:=hid hGM
 have bn0 : BN 0 W1 (.slice (some ⟨G,0,none⟩) 4 4) mkL:=by
  refine .inr ⟨G,4,rfl,Nat.zero_le _,?_⟩
  rw [← hW1,← hG]
  exact ⟨_,heap_alloc_new w1 _,by decide,by decide,rfl,rfl⟩
 have BN0:=hid bn0
 have HBk : Hid (∀ u v',PP W1 u (.slice (some ⟨G,0,none⟩) 4 4) v' → u.cell? ⟨M,0,none⟩ = some (.int .i64 sa) ∧ u.cell? ⟨M,1,none⟩ = some (.int .i64 sb) ∧ u.cell? ⟨M,2,none⟩ = some (.int .i64 sd) ∧ u.cell? ⟨M,3,none⟩ = some (.slice pa pl pc) ∧ u.cell? ⟨M,4,none⟩ = some (.slice qa n qc) ∧ u.cell? ⟨M,5,none⟩ = some (.int .i64 lo) ∧ u.cell? ⟨M,6,none⟩ = some (.int .i64 ra)):=fun u v' p => by
  have b:=((HBk0.out.kept K1.out).kept kw1).kx p.kx (fun h => by have:=blk_slice h; omega)
  exact ⟨b.c 0 _ rfl,b.c 1 _ rfl,b.c 2 _ rfl,b.c 3 _ rfl,b.c 4 _ rfl,b.c 5 _ rfl,b.c 6 _ rfl⟩
 have HKw : Hid (∀ u v',PP W1 u (.slice (some ⟨G,0,none⟩) 4 4) v' → Kept w u):=fun u v' p => p.kept KW.out (fun b hb => by have:=blk_slice hb; have:=HM.out; omega)
 have HNb : Hid (∀ u v',PP W1 u (.slice (some ⟨G,0,none⟩) 4 4) v' → ∀ b,blk v' b → w.heap.size ≤ b):=fun u v' p b hb => by
  rcases p.nb b hb with h | h
  ·have:=blk_slice h; have:=HM.out; omega
  ·have:=KW.out.below.size; omega
 clear hck hF f1 f2 f3 f4 hlen kw1 hGM bn0
 obtain ⟨x0,x1,x2,x3,x4,x5,x6⟩:=HBk.out W1 _ (PP.refl _ _)
 go_wp2_with fail
 (try rw [hW1])
 clear hW1 hG
 refine wp_region_late [16] (fun u => u.cell? ⟨M,0,none⟩ = some (.int .i64 sa) ∧ u.cell? ⟨M,1,none⟩ = some (.int .i64 sb) ∧ u.cell? ⟨M,2,none⟩ = some (.int .i64 sd) ∧ u.cell? ⟨M,5,none⟩ = some (.int .i64 lo) ∧ u.cell? ⟨M,6,none⟩ = some (.int .i64 ra)) (by kernel_rfl) (show W1.drew.cell? ⟨M,0,none⟩ = some (.int .i64 sa) ∧ W1.drew.cell? ⟨M,1,none⟩ = some (.int .i64 sb) ∧ W1.drew.cell? ⟨M,2,none⟩ = some (.int .i64 sd) ∧ W1.drew.cell? ⟨M,5,none⟩ = some (.int .i64 lo) ∧ W1.drew.cell? ⟨M,6,none⟩ = some (.int .i64 ra) from ⟨x0,x1,x2,x5,x6⟩) (fun hHeld => ?_)
 refine tkD (i:=0) (v:=?_) rfl hHeld ?_
 (try simp only [Act.put,zA,zB,zC,zD,zE,zF])
 refine tkD (i:=1) (v:=?_) rfl hHeld ?_
 (try simp only [Act.put,zA,zB,zC,zD,zE,zF])
 refine tkD (i:=2) (v:=?_) rfl hHeld ?_
 (try simp only [Act.put,zA,zB,zC,zD,zE,zF])
 refine tkD (i:=4) (v:=?_) rfl hHeld ?_
 (try simp only [Act.put,zA,zB,zC,zD,zE,zF])
 refine tkD (i:=5) (v:=?_) rfl hHeld ?_
 (try simp only [Act.put,zA,zB,zC,zD,zE,zF])
 refine tkD (i:=7) (v:=?_) rfl hHeld ?_
 (try simp only [Act.put,zA,zB,zC,zD,zE,zF])
 refine tkD (i:=8) (v:=?_) rfl hHeld ?_
 (try simp only [Act.put,zA,zB,zC,zD,zE,zF])
 refine tkD (i:=10) (v:=?_) rfl hHeld ?_
 (try simp only [Act.put,zA,zB,zC,zD,zE,zF])
 refine tkD (i:=11) (v:=?_) rfl hHeld ?_
 (try simp only [Act.put,zA,zB,zC,zD,zE,zF])
 refine tkD (i:=13) (v:=?_) rfl hHeld ?_
 (try simp only [Act.put,zA,zB,zC,zD,zE,zF])
 refine tkD (i:=14) (v:=?_) rfl hHeld ?_
 (try simp only [Act.put,zA,zB,zC,zD,zE,zF])
 refine wpAnyD_step (i:=3) (by kernel_rfl) rfl (fun K hK9 => ?_)
 go_simp
 go_wp2_with fail
 refine (HPut.out _ mkL sa 8 W1.drew (by decide) (by decide) (BN0.out.kept (Kept.refl W1).drew)).mono ?_
 rintro e z1 ⟨v1,rfl,bn1,pq1⟩
 have pp1 : PP W1 z1 (.slice (some ⟨G,0,none⟩) 4 4) v1:=((Kept.refl W1).drew.pp _).trans pq1
 have s1 : z1.cell? ⟨M,0,none⟩ = some (.int .i64 sa) ∧ z1.cell? ⟨M,1,none⟩ = some (.int .i64 sb) ∧ z1.cell? ⟨M,2,none⟩ = some (.int .i64 sd) ∧ z1.cell? ⟨M,5,none⟩ = some (.int .i64 lo) ∧ z1.cell? ⟨M,6,none⟩ = some (.int .i64 ra):=⟨(HBk.out _ _ pp1).1,(HBk.out _ _ pp1).2.1,(HBk.out _ _ pp1).2.2.1,(HBk.out _ _ pp1).2.2.2.2.2.1,(HBk.out _ _ pp1).2.2.2.2.2.2⟩
 refine hK9.out _ _ s1 (fun hHeld2 => ?_)
 clear hK9 K
 (try simp only [Act.put,zA,zB,zC,zD,zE,zF])
 refine wpAnyD_step (i:=6) (by kernel_rfl) rfl (fun K hK9 => ?_)
 go_simp
 go_wp2_with fail
 refine (HPut.out v1 _ sb 8 z1 (by decide) (by simp [le_len,mkL]) bn1).mono ?_
 rintro e z2 ⟨v2,rfl,bn2,pq2⟩
 have pp2 : PP W1 z2 (.slice (some ⟨G,0,none⟩) 4 4) v2:=pp1.trans pq2
 have s2 : z2.cell? ⟨M,0,none⟩ = some (.int .i64 sa) ∧ z2.cell? ⟨M,1,none⟩ = some (.int .i64 sb) ∧ z2.cell? ⟨M,2,none⟩ = some (.int .i64 sd) ∧ z2.cell? ⟨M,5,none⟩ = some (.int .i64 lo) ∧ z2.cell? ⟨M,6,none⟩ = some (.int .i64 ra):=⟨(HBk.out _ _ pp2).1,(HBk.out _ _ pp2).2.1,(HBk.out _ _ pp2).2.2.1,(HBk.out _ _ pp2).2.2.2.2.2.1,(HBk.out _ _ pp2).2.2.2.2.2.2⟩
 refine hK9.out _ _ s2 (fun hHeld3 => ?_)
 clear hK9 K
 (try simp only [Act.put,zA,zB,zC,zD,zE,zF])
 refine wpAnyD_step (i:=9) (by kernel_rfl) rfl (fun K hK9 => ?_)
 go_simp
 go_wp2_with fail
 refine (HPut.out v2 _ sd 8 z2 (by decide) (by simp [le_len,mkL]) bn2).mono ?_
 rintro e z3 ⟨v3,rfl,bn3,pq3⟩
 have pp3 : PP W1 z3 (.slice (some ⟨G,0,none⟩) 4 4) v3:=pp2.trans pq3
 have s3 : z3.cell? ⟨M,0,none⟩ = some (.int .i64 sa) ∧ z3.cell? ⟨M,1,none⟩ = some (.int .i64 sb) ∧ z3.cell? ⟨M,2,none⟩ = some (.int .i64 sd) ∧ z3.cell? ⟨M,5,none⟩ = some (.int .i64 lo) ∧ z3.cell? ⟨M,6,none⟩ = some (.int .i64 ra):=⟨(HBk.out _ _ pp3).1,(HBk.out _ _ pp3).2.1,(HBk.out _ _ pp3).2.2.1,(HBk.out _ _ pp3).2.2.2.2.2.1,(HBk.out _ _ pp3).2.2.2.2.2.2⟩
 refine hK9.out _ _ s3 (fun hHeld4 => ?_)
 clear hK9 K
 (try simp only [Act.put,zA,zB,zC,zD,zE,zF])
 refine wpAnyD_step (i:=12) (by kernel_rfl) rfl (fun K hK9 => ?_)
 go_simp
 go_wp2_with fail
 refine (HPut.out v3 _ lo 8 z3 (by decide) (by simp [le_len,mkL]) bn3).mono ?_
 rintro e z4 ⟨v4,rfl,bn4,pq4⟩
 have pp4 : PP W1 z4 (.slice (some ⟨G,0,none⟩) 4 4) v4:=pp3.trans pq4
 have s4 : z4.cell? ⟨M,0,none⟩ = some (.int .i64 sa) ∧ z4.cell? ⟨M,1,none⟩ = some (.int .i64 sb) ∧ z4.cell? ⟨M,2,none⟩ = some (.int .i64 sd) ∧ z4.cell? ⟨M,5,none⟩ = some (.int .i64 lo) ∧ z4.cell? ⟨M,6,none⟩ = some (.int .i64 ra):=⟨(HBk.out _ _ pp4).1,(HBk.out _ _ pp4).2.1,(HBk.out _ _ pp4).2.2.1,(HBk.out _ _ pp4).2.2.2.2.2.1,(HBk.out _ _ pp4).2.2.2.2.2.2⟩
 refine hK9.out _ _ s4 (fun hHeld5 => ?_)
 clear hK9 K
 (try simp only [Act.put,zA,zB,zC,zD,zE,zF])
 refine wpAnyD_step (i:=15) (by kernel_rfl) rfl (fun K hK9 => ?_)
 go_simp
 go_wp2_with fail
 refine (HPut.out v4 _ ra 8 z4 (by decide) (by simp [le_len,mkL]) bn4).mono ?_
 rintro e z5 ⟨v5,rfl,bn5,pq5⟩
 have pp5 : PP W1 z5 (.slice (some ⟨G,0,none⟩) 4 4) v5:=pp4.trans pq5
 have s5 : z5.cell? ⟨M,0,none⟩ = some (.int .i64 sa) ∧ z5.cell? ⟨M,1,none⟩ = some (.int .i64 sb) ∧ z5.cell? ⟨M,2,none⟩ = some (.int .i64 sd) ∧ z5.cell? ⟨M,5,none⟩ = some (.int .i64 lo) ∧ z5.cell? ⟨M,6,none⟩ = some (.int .i64 ra):=⟨(HBk.out _ _ pp5).1,(HBk.out _ _ pp5).2.1,(HBk.out _ _ pp5).2.2.1,(HBk.out _ _ pp5).2.2.2.2.2.1,(HBk.out _ _ pp5).2.2.2.2.2.2⟩
 refine hK9.out _ _ s5 (fun hHeld6 => ?_)
 clear hK9 K
 (try simp only [Act.put,zA,zB,zC,zD,zE,zF])
 refine wpAnyD_late (i:=16) (by kernel_rfl) rfl rfl (fun K hK9 => ?_)
 go_simp
 refine hK9.out _ _ ?_
 clear hK9 K
 (try simp only [Act.put,zA,zB,zC,zD,zE,zF])
 refine wpAnyD_done (by kernel_rfl) ?_ _
 (try simp only [Act.put,zA,zB,zC,zD,zE,zF])
 have HP5:=hid pp5
 obtain ⟨V5,hV5⟩ : ∃ V5,mkL ++ le 8 sa ++ le 8 sb ++ le 8 sd ++ le 8 lo ++ le 8 ra = V5:=⟨_,rfl⟩
 rw [hV5] at bn5
 have hV5l : V5.length = 44:=by rw [← hV5]; simp [le_len,mkL]
 have HB5:=hid bn5
 have HV5:=hid hV5
 have HV5l:=hid hV5l
 have HPut6:=hid (HPut.out v5 V5 (pl : Int) 2 z5 (by decide) (by omega) bn5)
 obtain ⟨y0,y1,y2,x3,x4,y5,y6⟩:=HBk.out z5 _ pp5
 clear s1 s2 s3 s4 s5 bn1 bn2 bn3 bn4 bn5 pp1 pp2 pp3 pp4 pp5 pq1 pq2 pq3 pq4 pq5 hHeld hHeld2 hHeld3 hHeld4 hHeld5 hHeld6 x0 x1 x2 x5 x6 hV5l hV5 y0 y1 y2 y5 y6
 go_wp2_with fail
 go_at_call 40
 refine HPut6.out.mono ?_
 rintro e w6 ⟨v6,rfl,bn6,pq6⟩
 have pp6:=HP5.out.trans pq6
 have HP6:=hid pp6
 have HB6:=hid bn6
 clear x3 x4
 obtain ⟨y0,y1,y2,x3,x4,y5,y6⟩:=HBk.out w6 _ pp6
 clear y0 y1 y2 y5 y6 pp6 pq6 bn6 HPut6
 go_wp2_with fail
 go_loopw [5,6] (fun lv iv wr => ∃ (i : Nat) (av : Value),lv = av ∧ i ≤ pl ∧ iv = .int .i64 (i : Int) ∧ BN 0 wr av (V5 ++ le 2 (pl : Int) ++ wls (s.P.take i)) ∧ PP W1 wr (.slice (some ⟨G,0,none⟩) 4 4) av) (fun _ iv _ => pl - (intOf iv).toNat)
 case atStart => exact ⟨0,_,rfl,Nat.zero_le _,rfl,by rw [List.take_zero,show wls [] = [] from rfl,List.append_nil]; exact HB6.out,HP6.out⟩
 case round =>
  clear x3 x4
  obtain ⟨i,av,hlv,hi,rfl,hb,hp⟩:=hrel
  have h9:=hlv.symm
  subst h9
  clear hlv
  have HBi:=hid hb
  have HPi:=hid hp
  have HI:=hid hi
  obtain ⟨y0,y1,y2,x3,x4,y5,y6⟩:=HBk.out _ _ hp
  clear y0 y1 y2 y5 y6 hb
  by_cases hin : i < pl
  ·obtain ⟨m,hm⟩ : ∃ m,s.P[i]? = some m:=⟨_,List.getElem?_eq_getElem (by rw [HPl.out]; exact hin)⟩
   obtain ⟨B,off,a,cp,rfl,hc⟩:=HP.out i m hm
   have mc:=hc _ (HKw.out _ _ hp)
   have hsl:=(hc w (Kept.refl w)).sl
   have hro:=wls_room i m hm
   have HStp:=hid (wls_step i m hm)
   have HPm:=hid (putm_any m.r m.c m.n m.L a cp (HOP.out i m hm) av _ w wr (HKw.out _ _ hp) hsl HBi.out (HNb.out _ _ hp) (by
    simp only [List.length_append,le_len]
    have:=HLen.out; have:=HV5l.out; omega))
   obtain ⟨c0,c1,c2,c3,-⟩:=mc
   have hb1 : (0 : Int) ≤ (i : Int) ∧ (i : Int) < (pl : Int):=by omega
   have hb2 : (i : Int) < (pl : Int):=by omega
   have z2 : IntKind.i64.wrap ((i : Int) + 1) = (i : Int) + 1:=by have:=HF64.out; rw [wrap_i64]; omega
   have HII:=hid hin
   obtain ⟨r,c,nn,L⟩:=m
   dsimp only at c0 c1 c2 c3 HPm
   obtain ⟨ll,hLl⟩ : ∃ ll,L.length = ll:=⟨_,rfl⟩
   rw [hLl] at c3 HPm
   clear hc hm HP HQ hin hi hsl hro hp
   go_wp2_with fail
   go_at_call 41
   refine HPm.out.mono ?_
   rintro e w7 ⟨v7,rfl,bn7,pp7⟩
   have HB7:=hid (show BN 0 w7 v7 (V5 ++ le 2 (pl : Int) ++ wls (s.P.take (i + 1))) by rw [HStp.out,← List.append_assoc]; exact bn7)
   have HP7:=hid (HPi.out.trans pp7)
   clear bn7 pp7 x3 x4 c0 c1 c2 c3
   go_wp2_with fail
   go_roundw
   case rel => exact ⟨i + 1,_,rfl,by have:=HII.out; omega,by go_num,HB7.out,HP7.out⟩
   case measure => have:=HII.out; simp [intOf]; omega
  ·obtain rfl : i = pl:=by omega
   have htk : s.P.take i = s.P:=List.take_of_length_le (by rw [HPl.out]; exact Nat.le_refl _)
   obtain ⟨V8,hV8⟩ : ∃ V8,V5 ++ le 2 (i : Int) ++ wls s.P = V8:=⟨_,rfl⟩
   have hb8:=HBi.out
   rw [htk,hV8] at hb8
   have hV8l : V8.length = 46 + (wls s.P).length:=by rw [← hV8]; simp only [List.length_append,le_len]; have:=HV5l.out; omega
   have HPut8:=hid (HPut.out _ V8 (n : Int) 2 wr (by decide) (by have:=HLen.out; omega) hb8)
   have HV8:=hid hV8
   have HV8l:=hid hV8l
   clear hin hi HP htk hb8 hV8 hV8l hp HBi
   go_wp2_with fail
   go_at_call 40
   refine HPut8.out.mono ?_
   rintro e w8 ⟨v8,rfl,bn8,pq8⟩
   have pp8:=HPi.out.trans pq8
   have HP8:=hid pp8
   have HB8:=hid bn8
   clear x3 x4
   obtain ⟨y0,y1,y2,x3,x4,y5,y6⟩:=HBk.out w8 _ pp8
   clear y0 y1 y2 y5 y6 pp8 pq8 bn8 HPut8 HPi
   go_wp2_with fail
   go_loopw [5,7] (fun lv iv wr => ∃ (j : Nat) (av : Value),lv = av ∧ j ≤ n ∧ iv = .int .i64 (j : Int) ∧ BN 0 wr av (V8 ++ le 2 (n : Int) ++ wqs (s.Q.take j)) ∧ PP W1 wr (.slice (some ⟨G,0,none⟩) 4 4) av) (fun _ iv _ => n - (intOf iv).toNat)
   case atStart => exact ⟨0,_,rfl,Nat.zero_le _,rfl,by rw [List.take_zero,show wqs [] = [] from rfl,List.append_nil]; exact HB8.out,HP8.out⟩
   case round =>
    clear x3 x4
    obtain ⟨j,av,hlv,hj,rfl,hb,hp⟩:=hrel
    have h9:=hlv.symm
    subst h9
    clear hlv
    have HBj:=hid hb
    have HPj:=hid hp
    obtain ⟨y0,y1,y2,x3,x4,y5,y6⟩:=HBk.out _ _ hp
    clear y0 y1 y2 y5 y6 hb
    by_cases hjn : j < n
    ·obtain ⟨l,hl⟩ : ∃ l,s.Q[j]? = some l:=⟨_,List.getElem?_eq_getElem (by rw [HNn.out]; exact hjn)⟩
     obtain ⟨B,off,la,lc,rfl,hlc,hc,hin3⟩:=HQ.out j l hl
     have c3:=hc _ (HKw.out _ _ hp)
     have hb1 : (0 : Int) ≤ (j : Int) ∧ (j : Int) < (n : Int):=by omega
     have hb2 : (j : Int) < (n : Int):=by omega
     have z2 : IntKind.i64.wrap ((j : Int) + 1) = (j : Int) + 1:=by have:=HF64.out; rw [wrap_i64]; omega
     have HL4:=hid (HOQ.out j l hl).1
     have HOl:=hid (HOQ.out j l hl).2
     have HStp:=hid (wqs_step j l hl)
     have HRo:=hid (wqs_room j l hl)
     obtain ⟨q,hq⟩ : ∃ q,l.length = q:=⟨_,rfl⟩
     rw [hq] at c3 HL4 hlc HStp
     have HL:=hid hq
     have HL3:=hid hin3
     have HJ:=hid hjn
     have HC3:=hid hc
     obtain ⟨V9,hV9⟩ : ∃ V9,V8 ++ le 2 (n : Int) ++ wqs (s.Q.take j) = V9:=⟨_,rfl⟩
     have hb9:=HBj.out
     rw [hV9] at hb9
     have hV9l : V9.length + (wls l).length ≤ 90000000:=by rw [← hV9]; simp only [List.length_append,le_len]; have:=HLen.out; have:=HV8l.out; have:=HRo.out; omega
     have HPut9:=hid (HPut.out _ V9 (q : Int) 1 wr (by decide) (by omega) hb9)
     have HV9:=hid hV9
     have HV9l:=hid hV9l
     clear hc hl HQ hjn hj hq hin3 hlc hb9 hV9 hV9l hp HBj
     go_wp2_with fail
     go_at_call 40
     refine HPut9.out.mono ?_
     rintro e w9 ⟨v9,rfl,bn9,pq9⟩
     have pp9:=HPj.out.trans pq9
     have HP9:=hid pp9
     have HB9:=hid bn9
     clear x3 x4 c3
     obtain ⟨y0,y1,y2,x3,x4,y5,y6⟩:=HBk.out w9 _ pp9
     have c3:=HC3.out _ (HKw.out _ _ pp9)
     rw [HL.out] at c3
     clear y0 y1 y2 y5 y6 pp9 pq9 bn9 HPut9 HPj
     go_wp2_with fail
     go_loopw [5,8] (fun lv iv wr => ∃ (k : Nat) (av : Value),lv = av ∧ k ≤ q ∧ iv = .int .i64 (k : Int) ∧ BN 0 wr av (V9 ++ le 1 (q : Int) ++ wls (l.take k)) ∧ PP W1 wr (.slice (some ⟨G,0,none⟩) 4 4) av) (fun _ iv _ => q - (intOf iv).toNat)
     case atStart => exact ⟨0,_,rfl,Nat.zero_le _,rfl,by rw [List.take_zero,show wls [] = [] from rfl,List.append_nil]; exact HB9.out,HP9.out⟩
     case round =>
      clear x3 x4 c3
      obtain ⟨k,av,hlv,hk,rfl,hb,hp⟩:=hrel
      have h9:=hlv.symm
      subst h9
      clear hlv
      have HBk9:=hid hb
      have HPk:=hid hp
      obtain ⟨y0,y1,y2,x3,x4,y5,y6⟩:=HBk.out _ _ hp
      have c3:=HC3.out _ (HKw.out _ _ hp)
      rw [HL.out] at c3
      clear y0 y1 y2 y5 y6 hb
      by_cases hkn : k < q
      ·obtain ⟨m,hm⟩ : ∃ m,l[k]? = some m:=⟨_,List.getElem?_eq_getElem (by rw [HL.out]; exact hkn)⟩
       obtain ⟨B2,off2,a,cp,rfl,hc⟩:=HL3.out k m hm
       have mc:=hc _ (HKw.out _ _ hp)
       have hsl:=(hc w (Kept.refl w)).sl
       have hro:=wls_room k m hm
       have HStp2:=hid (wls_step k m hm)
       have HPm:=hid (putm_any m.r m.c m.n m.L a cp (HOl.out k m hm) av _ w _ (HKw.out _ _ hp) hsl HBk9.out (HNb.out _ _ hp) (by
        simp only [List.length_append,le_len]
        have:=HV9l.out; omega))
       obtain ⟨e0,e1,e2,e3,-⟩:=mc
       have hb3 : (0 : Int) ≤ (k : Int) ∧ (k : Int) < (q : Int):=by omega
       have hb4 : (k : Int) < (q : Int):=by omega
       have z4 : IntKind.i64.wrap ((k : Int) + 1) = (k : Int) + 1:=by have:=HL4.out; rw [wrap_i64]; omega
       have HII:=hid hkn
       obtain ⟨r,c,nn,L⟩:=m
       dsimp only at e0 e1 e2 e3 HPm
       obtain ⟨ll,hLl⟩ : ∃ ll,L.length = ll:=⟨_,rfl⟩
       rw [hLl] at e3 HPm
       clear hc hm HL3 hkn hk hsl hro hp
       go_wp2_with fail
       go_at_call 41
       refine HPm.out.mono ?_
       rintro e w7 ⟨v7,rfl,bn7,pp7⟩
       have HB7:=hid (show BN 0 w7 v7 (V9 ++ le 1 (q : Int) ++ wls (l.take (k + 1))) by rw [HStp2.out,← List.append_assoc]; exact bn7)
       have HP7:=hid (HPk.out.trans pp7)
       clear bn7 pp7 x3 x4 c3 e0 e1 e2 e3
       go_wp2_with fail
       go_roundw
       case rel => exact ⟨k + 1,_,rfl,by have:=HII.out; omega,by go_num,HB7.out,HP7.out⟩
       case measure => have:=HII.out; simp [intOf]; omega
      ·obtain rfl : k = q:=by omega
       have htk : l.take k = l:=List.take_of_length_le (by rw [HL.out]; exact Nat.le_refl _)
       have HB10:=hid (show BN 0 _ av (V8 ++ le 2 (n : Int) ++ wqs (s.Q.take (j + 1))) by
        have h:=HBk9.out
        rw [htk] at h
        rw [HStp.out,← List.append_assoc,← List.append_assoc,HV9.out]
        exact h)
       clear hkn hk htk hp
       go_wp2_with fail
       go_roundw
       case rel => exact ⟨j + 1,_,rfl,by have:=HJ.out; omega,by go_num,HB10.out,HPk.out⟩
       case measure => have:=HJ.out; simp [intOf]; omega
    ·obtain rfl : j = n:=by omega
     have htk : s.Q.take j = s.Q:=List.take_of_length_le (by rw [HNn.out]; exact Nat.le_refl _)
     have hbw : BN 0 wr av (wbody s):=by
      have h:=HBj.out
      rw [htk] at h
      rw [HEnc.out.2,HV5.out,HV8.out]
      exact h
     have hbl : (wbody s).length ≤ 90000000:=by
      have:=HLen.out
      have h2:=enc_room s
      have h3 : (enc s).length = (wbody s).length + 4:=by unfold enc; rw [List.length_append,le_len]
      omega
     have HBw:=hid hbw
     have HSm:=hid (rsum_any av (wbody s) HBy.out (by omega) wr (by
      obtain ⟨ao,c,e,h1,h2⟩:=hbw.rd
      exact ⟨ao,c,e,h2⟩))
     have HPutF:=hid (fun u (ku : Kept wr u) => HPut.out av (wbody s) (sumB (wbody s)) 4 u (by decide) (by omega) (hbw.kept ku))
     have HKf:=hid (HKw.out _ _ hp)
     clear hjn hj HQ htk hbw hbl hp
     generalize sumB (wbody s) = sm at *
     go_wp2_with fail
     go_at_call 17
     refine HSm.out.mono ?_
     rintro e w10 ⟨rfl,k10⟩
     have K10:=hid k10
     clear k10 x3 x4
     go_wp2_with fail
     go_at_call 40
     refine (HPutF.out w10 K10.out).mono ?_
     rintro e w11 ⟨v11,rfl,bn11,pp11⟩
     have HB11:=hid bn11
     have HP11:=hid pp11
     clear bn11 pp11
     go_wp2_with fail
     refine bodyPost_ret (v:=.tuple #[v11,.int .i64 0]) (by simp [results,Try.results21,go_sem]) rfl ?_
     refine ⟨.inl ⟨HFr.out,v11,rfl,?_,HNb.out _ _ ((HPj.out.trans (K10.out.pp _)).trans HP11.out)⟩,HKw.out _ _ ((HPj.out.trans (K10.out.pp _)).trans HP11.out)⟩
     have h:=HB11.out
     rw [HEnc.out.2] at h
     rw [HEnc.out.1]
     exact h
end Go.Proofs.Ytocjfdiimapojaa
