/- The document's bytes: a matrix; the sum. -/
import Derived.Test.YtocjfdiimapojaaMK
import Derived.Test.YtocjfdiimapojaaZC
namespace Go.Proofs.Ytocjfdiimapojaa
open Go.ChangeShapes Go.WideShapes Go.ChangeAt Go.RowKit
set_option maxHeartbeats 16000000
set_option maxRecDepth 100000
set_option linter.unusedVariables false
set_option linter.unusedSimpArgs false
theorem blk_slice {g n c b : Nat} (h : blk (.slice (some ⟨g,0,none⟩) n c) b) : b = g:=by
 obtain ⟨n2,c2,e⟩:=h
 cases e
 rfl
theorem BN.kept {H : Nat} {w w' : World} {v : Value} {L : List Int} (h : BN H w v L) (k : Kept w w') : BN H w' v L:=h.kx (k.kx fun _ => False) (fun b hb => hb.elim)
theorem putm_any (r c n : Int) (L : List Int) (a : Option Addr) (cp : Nat) (hok : matOk ⟨r,c,n,L⟩) (v : Value) (V : List Int) (W w : World) (hW : Kept W w) (hs : Sl W (.slice a L.length cp) L) (hB : BN 0 w v V) (hnb : ∀ b,blk v b → W.heap.size ≤ b) (hlen : V.length ≤ 99000000) :
  Calls Try.prog 41 #[v,.agg #[.int .i64 r,.int .i64 c,.int .i64 n,.slice a L.length cp]] w fun e w' => ∃ v',e = .returned v' ∧ BN 0 w' v' (V ++ wm ⟨r,c,n,L⟩) ∧ PP w w' v v':=by
 obtain ⟨M,hM⟩ : ∃ M,w.heap.size = M:=⟨_,rfl⟩
 obtain ⟨N,hN⟩ : ∃ N,L.length = N:=⟨_,rfl⟩
 have hokl:=hok.len
 dsimp only at hokl
 rw [hN] at hs hokl ⊢
 obtain ⟨W0,hW0⟩ : ∃ W0,w.alloc (.cells #[.int .i64 r,.int .i64 c,.int .i64 n,.slice a N cp] 54) = W0:=⟨_,rfl⟩
 have k0 : Kept w W0:=by rw [← hW0]; exact (Kept.refl w).alloc _ _
 have b0 : Bk W0 M [.int .i64 r,.int .i64 c,.int .i64 n,.slice a N cp]:=by rw [← hW0,← hM]; exact Bk.new w _ _
 have HN:=hid hN
 have HK0:=hid k0
 have HWk:=hid (hW.trans k0)
 have HB0:=hid (hB.kept k0)
 have hvb : ¬ blk v M:=fun h => by have:=hB.blk h; omega
 have HVb:=hid hvb
 have HM:=hid hM
 -- what stays behind a Put
 have HBk : Hid (∀ u v',PP W0 u v v' → u.cell? ⟨M,0,none⟩ = some (.int .i64 r) ∧ u.cell? ⟨M,1,none⟩ = some (.int .i64 c) ∧ u.cell? ⟨M,2,none⟩ = some (.int .i64 n) ∧ u.cell? ⟨M,3,none⟩ = some (.slice a N cp)):=fun u v' p => by
  have b:=b0.kx p.kx hvb
  exact ⟨b.c 0 _ rfl,b.c 1 _ rfl,b.c 2 _ rfl,b.c 3 _ rfl⟩
 have HRd : Hid (∀ u v' i,PP W0 u v v' → i < N → ∃ b off,a = some ⟨b,off,none⟩ ∧ u.cell? ⟨b,off + i,none⟩ = some (.int .i64 (L.getD i 0)) ∧ b < W.heap.size):=fun u v' i p hi => by
  obtain ⟨ao',cap',e,-,-,hr⟩:=hs
  have ku : Kept W u:=p.kept (hW.trans k0) hnb
  injection e with e1 e2 e3
  subst e1 e3
  obtain ⟨b,off,e2,hbl,hrd⟩:=hr (by intro e; rw [e] at hN; simp at hN; omega)
  exact ⟨b,off,e2,(ku.below.cell (p:=⟨b,off + i,none⟩) hbl).trans (hrd i (by omega)),hbl⟩
 have HNb : Hid (∀ u v',PP W0 u v v' → ∀ b,b < W.heap.size → ¬ blk v' b):=fun u v' p b hb h => by
  rcases p.nb b h with h1 | h1
  ·have:=hnb b h1; omega
  ·have:=(hW.trans k0).below.size; omega
 have HPut:=hid (show ∀ (v : Value) (L : List Int) (n : Int) (k : Nat) (w : World),k ≤ 8 → L.length < 99990000 → BN 0 w v L → Calls Try.prog 40 #[v,.int .i64 n,.int .i64 (k : Int)] w fun e w' => ∃ v',e = .returned v' ∧ BN 0 w' v' (L ++ le k n) ∧ PP w w' v v' from fun v L n k w hk hl hb => put_any v L n k hk hl w hb)
 have HLn:=hid (show V.length ≤ 99000000 ∧ N ≤ 4096 ∧ (n = 64 ∨ n = 32) from ⟨hlen,hokl.2,hokl.1⟩)
 obtain ⟨c0,c1,c2,c3⟩:=HBk.out W0 v (PP.refl _ _)
 have P1:=hid (HPut.out v V n 1 W0.drew (by decide) (by omega) (HB0.out.kept (Kept.refl W0).drew))
 clear hs hok hokl b0 k0 hW hB hnb hlen hvb hN
 go_enter Try.func41,Try.ntmps41
 go_wp2_with fail
 refine wp_region_late [10] (fun u => u.cell? ⟨M,0,none⟩ = some (.int .i64 r) ∧ u.cell? ⟨M,1,none⟩ = some (.int .i64 c) ∧ u.cell? ⟨M,2,none⟩ = some (.int .i64 n)) (by kernel_rfl) (show W0.drew.cell? _ = _ ∧ W0.drew.cell? _ = _ ∧ W0.drew.cell? _ = _ from ⟨c0,c1,c2⟩) (fun hHeld => ?_)
 refine tkD (i:=0) (v:=?_) rfl hHeld ?_
 (try simp only [Act.put,zA,zB,zC,zD,zE,zF])
 refine tkD (i:=1) (v:=?_) rfl hHeld ?_
 (try simp only [Act.put,zA,zB,zC,zD,zE,zF])
 refine tkD (i:=2) (v:=?_) rfl hHeld ?_
 (try simp only [Act.put,zA,zB,zC,zD,zE,zF])
 refine tkD (i:=4) (v:=?_) rfl hHeld ?_
 (try simp only [Act.put,zA,zB,zC,zD,zE,zF])
 refine tkD (i:=5) (v:=?_) rfl hHeld ?_
 (try simp only [Act.put,zA,zB,zC,zD,zE,zF])
 refine tkD (i:=7) (v:=?_) rfl hHeld ?_
 (try simp only [Act.put,zA,zB,zC,zD,zE,zF])
 refine tkD (i:=8) (v:=?_) rfl hHeld ?_
 (try simp only [Act.put,zA,zB,zC,zD,zE,zF])
 refine wpAnyD_step (i:=3) (by kernel_rfl) rfl (fun K hK9 => ?_)
 go_simp
 go_wp2_with fail
 refine (P1.out).mono ?_
 rintro e w1 ⟨v1,rfl,bn1,pq1⟩
 have pp1 : PP W0 w1 v v1:=((Kept.refl W0).drew.pp _).trans pq1
 have s1 : w1.cell? ⟨M,0,none⟩ = some (.int .i64 r) ∧ w1.cell? ⟨M,1,none⟩ = some (.int .i64 c) ∧ w1.cell? ⟨M,2,none⟩ = some (.int .i64 n):=⟨(HBk.out _ _ pp1).1,(HBk.out _ _ pp1).2.1,(HBk.out _ _ pp1).2.2.1⟩
 refine hK9.out _ _ s1 (fun hHeld2 => ?_)
 clear hK9 K
 (try simp only [Act.put,zA,zB,zC,zD,zE,zF])
 refine wpAnyD_step (i:=6) (by kernel_rfl) rfl (fun K hK9 => ?_)
 go_simp
 go_wp2_with fail
 refine (HPut.out v1 _ r 2 w1 (by decide) (by rw [List.length_append,le_len]; have:=HLn.out.1; omega) bn1).mono ?_
 rintro e w2 ⟨v2,rfl,bn2,pq2⟩
 have pp2 : PP W0 w2 v v2:=pp1.trans pq2
 have s2 : w2.cell? ⟨M,0,none⟩ = some (.int .i64 r) ∧ w2.cell? ⟨M,1,none⟩ = some (.int .i64 c) ∧ w2.cell? ⟨M,2,none⟩ = some (.int .i64 n):=⟨(HBk.out _ _ pp2).1,(HBk.out _ _ pp2).2.1,(HBk.out _ _ pp2).2.2.1⟩
 refine hK9.out _ _ s2 (fun hHeld3 => ?_)
 clear hK9 K
 (try simp only [Act.put,zA,zB,zC,zD,zE,zF])
 refine wpAnyD_step (i:=9) (by kernel_rfl) rfl (fun K hK9 => ?_)
 go_simp
 go_wp2_with fail
 refine (HPut.out v2 _ c 2 w2 (by decide) (by rw [List.length_append,List.length_append,le_len,le_len]; have:=HLn.out.1; omega) bn2).mono ?_
 rintro e w3 ⟨v3,rfl,bn3,pq3⟩
 have pp3 : PP W0 w3 v v3:=pp2.trans pq3
 have s3 : w3.cell? ⟨M,0,none⟩ = some (.int .i64 r) ∧ w3.cell? ⟨M,1,none⟩ = some (.int .i64 c) ∧ w3.cell? ⟨M,2,none⟩ = some (.int .i64 n):=⟨(HBk.out _ _ pp3).1,(HBk.out _ _ pp3).2.1,(HBk.out _ _ pp3).2.2.1⟩
 refine hK9.out _ _ s3 (fun hHeld4 => ?_)
 clear hK9 K
 (try simp only [Act.put,zA,zB,zC,zD,zE,zF])
 refine wpAnyD_late (i:=10) (by kernel_rfl) rfl rfl (fun K hK9 => ?_)
 go_simp
 refine hK9.out _ _ ?_
 clear hK9 K
 (try simp only [Act.put,zA,zB,zC,zD,zE,zF])
 refine wpAnyD_done (by kernel_rfl) ?_ _
 (try simp only [Act.put,zA,zB,zC,zD,zE,zF])
 have HB3:=hid bn3
 have HP3:=hid pp3
 have hq : ∃ kk : Nat,(kk = 8 ∨ kk = 4) ∧ Int.tdiv n 8 = (kk : Int) ∧ (Int.tdiv n 8).toNat = kk:=by
  rcases HLn.out.2.2 with rfl | rfl
  ·exact ⟨8,.inl rfl,rfl,rfl⟩
  ·exact ⟨4,.inr rfl,rfl,rfl⟩
 obtain ⟨kk,hkk,hq1,hq2⟩:=hq
 have HKK:=hid hkk
 have HQ2:=hid hq2
 have zk : IntKind.i64.wrap (kk : Int) = (kk : Int):=by rw [wrap_i64]; omega
 obtain ⟨V3,hV3⟩ : ∃ V3,V ++ le 1 n ++ le 2 r ++ le 2 c = V3:=⟨_,rfl⟩
 rw [hV3] at HB3
 have hV3l : V3.length = V.length + 5:=by rw [← hV3]; simp [le_len]
 have HV3:=hid (show V3.length ≤ 99000005 by have:=HLn.out.1; omega)
 have HV3e:=hid hV3
 clear bn3 pp3 s1 s2 s3 hHeld hHeld2 hHeld3 hHeld4 c0 c1 c2 c3 hkk hq2 hV3 hV3l hM hW0
 go_wp2_with fail
 go_loopw [0,5] (fun lv iv wr => ∃ (i : Nat) (av : Value),lv = av ∧ i ≤ N ∧ iv = .int .i64 (i : Int) ∧ BN 0 wr av (V3 ++ wbits kk (L.take i)) ∧ PP W0 wr v av) (fun _ iv _ => N - (intOf iv).toNat)
 case atStart => exact ⟨0,_,rfl,Nat.zero_le _,rfl,by rw [List.take_zero,show wbits kk [] = [] from rfl,List.append_nil]; exact HB3.out,HP3.out⟩
 case round =>
  obtain ⟨i,av,hlv,hi,rfl,hb,hp⟩:=hrel
  have h9:=hlv.symm
  subst h9
  clear hlv
  have HBi:=hid hb
  have HPi:=hid hp
  obtain ⟨c0,c1,c2,c3⟩:=HBk.out wr av hp
  by_cases hin : i < N
  ·obtain ⟨b,off,rfl,e0,hbW⟩:=HRd.out wr av i hp hin
   have hbd : (0 : Int) ≤ (i : Int) ∧ (i : Int) < (N : Int):=by omega
   have hbd2 : (i : Int) < (N : Int):=by omega
   have z9 : IntKind.i64.wrap ((i : Int) + 1) = (i : Int) + 1:=by have:=HLn.out; rw [wrap_i64]; omega
   have HStp:=hid (wbits_step kk L i (by rw [HN.out]; exact hin))
   have HII:=hid (show i < N ∧ b < W.heap.size from ⟨hin,hbW⟩)
   have HLt:=hid (show (V3 ++ wbits kk (L.take i)).length < 99990000 by
    rw [List.length_append,wbits_len,List.length_take]
    have h1:=HV3.out
    have h2:=HLn.out
    have h3 : kk * min i L.length ≤ 8 * 4096:=Nat.mul_le_mul (by rcases HKK.out with h | h <;> omega) (by have:=HN.out; omega)
    omega)
   have HPc:=hid (HPut.out av _ (L.getD i 0) kk wr.drew (by rcases HKK.out with h | h <;> omega) HLt.out (HBi.out.kept (Kept.refl wr).drew))
   have HRu:=hid (HRd.out)
   clear hb hp HRd
   generalize L.getD i 0 = bi at *
   go_wp2_with fail
   refine wp_region_late [10] (fun u => u.cell? ⟨M,3,none⟩ = some (.slice (some ⟨b,off,none⟩) N cp) ∧ u.cell? ⟨b,off + i,none⟩ = some (.int .i64 bi) ∧ u.cell? ⟨M,2,none⟩ = some (.int .i64 n)) (by kernel_rfl) (show wr.drew.cell? _ = _ ∧ wr.drew.cell? _ = _ ∧ wr.drew.cell? _ = _ from ⟨c3,e0,c2⟩) (fun hHeld => ?_)
   refine tkD (i:=0) (v:=?_) rfl hHeld ?_
   (try simp only [Act.put,zA,zB,zC,zD,zE,zF])
   refine tkD (i:=1) (v:=?_) rfl hHeld ?_
   (try simp only [Act.put,zA,zB,zC,zD,zE,zF])
   refine tkD (i:=2) (v:=?_) rfl hHeld ?_
   (try simp only [Act.put,zA,zB,zC,zD,zE,zF])
   refine tkD (i:=3) (v:=?_) rfl hHeld ?_
   (try simp only [Act.put,zA,zB,zC,zD,zE,zF])
   refine tkD (i:=4) (v:=?_) rfl hHeld ?_
   (try simp only [Act.put,zA,zB,zC,zD,zE,zF])
   refine tkD (i:=5) (v:=?_) rfl hHeld ?_
   (try simp only [Act.put,zA,zB,zC,zD,zE,zF])
   refine tkD (i:=6) (v:=?_) rfl hHeld ?_
   (try simp only [Act.put,zA,zB,zC,zD,zE,zF])
   refine tkD (i:=7) (v:=?_) rfl hHeld ?_
   (try simp only [Act.put,zA,zB,zC,zD,zE,zF])
   refine tkD (i:=8) (v:=?_) rfl hHeld ?_
   (try simp only [Act.put,zA,zB,zC,zD,zE,zF])
   refine wpAnyD_step (i:=9) (by kernel_rfl) rfl (fun K hK9 => ?_)
   go_simp
   go_wp2_with fail
   refine HPc.out.mono ?_
   rintro e w5 ⟨v5,rfl,bn5,pp5⟩
   have pp6:=HPi.out.trans (((Kept.refl wr).drew.pp _).trans pp5)
   have s5 : w5.cell? ⟨M,3,none⟩ = some (.slice (some ⟨b,off,none⟩) N cp) ∧ w5.cell? ⟨b,off + i,none⟩ = some (.int .i64 bi) ∧ w5.cell? ⟨M,2,none⟩ = some (.int .i64 n):=⟨(HBk.out _ _ pp6).2.2.2,(World.cell?_of_block (pp5.kx.block b (World.block_lt_of_cell? _ _ e0) (HNb.out wr _ HPi.out b HII.out.2))).trans e0,(HBk.out _ _ pp6).2.2.1⟩
   refine hK9.out _ _ s5 (fun hHeld2 => ?_)
   clear hK9 K pp6
   (try simp only [Act.put,zA,zB,zC,zD,zE,zF])
   refine wpAnyD_late (i:=10) (by kernel_rfl) rfl rfl (fun K hK9 => ?_)
   go_simp
   refine hK9.out _ _ ?_
   clear hK9 K
   (try simp only [Act.put,zA,zB,zC,zD,zE,zF])
   refine wpAnyD_done (by kernel_rfl) ?_ _
   (try simp only [Act.put,zA,zB,zC,zD,zE,zF])
   have HB6:=hid (show BN 0 w5 v5 (V3 ++ wbits kk (L.take (i + 1))) by rw [HStp.out,← List.append_assoc]; exact bn5)
   have HP6:=hid (HPi.out.trans (((Kept.refl wr).drew.pp _).trans pp5))
   clear bn5 pp5 s5 hHeld hHeld2 c0 c1 c2 c3 e0
   go_wp2_with fail
   go_roundw
   case rel => exact ⟨i + 1,v5,rfl,by omega,by go_num,HB6.out,HP6.out⟩
   case measure => simp [intOf]; omega
  ·obtain rfl : i = N:=by omega
   have hfin : V3 ++ wbits kk (L.take i) = V ++ wm ⟨r,c,n,L⟩:=by
    rw [List.take_of_length_le (by rw [HN.out]; exact Nat.le_refl _),← HV3e.out]
    show _ = V ++ (le 1 n ++ le 2 r ++ le 2 c ++ wbits (Int.tdiv n 8).toNat L)
    rw [HQ2.out]
    simp only [List.append_assoc]
   have HFin:=hid hfin
   clear hfin hb hp
   go_wp2_with fail
   go_ret
   exact ⟨_,rfl,by rw [← HFin.out]; exact HBi.out,(HK0.out.pp _).trans HPi.out⟩
theorem rsum_any (v : Value) (B : List Int) (hB : Byt B) (hlen : B.length ≤ 100000000) (w : World) (hS : ∃ ao cap,v = .slice ao B.length cap ∧ (B ≠ [] → ∃ b off,ao = some ⟨b,off,none⟩ ∧ b < w.heap.size ∧ BR w b off B)) :
  Calls Try.prog 17 #[v] w fun e w' => e = .returned (.int .i64 (sumB B)) ∧ Kept w w':=by
 obtain ⟨ao,cap,rfl,hS⟩:=hS
 obtain ⟨f,hf⟩ : ∃ f : Nat → Int,∀ i,sz 0 (B.take i) % 4294967296 = f i:=⟨_,fun _ => rfl⟩
 obtain ⟨h,hh⟩ : ∃ h : Nat → Int,∀ i,B.getD i 0 = h i:=⟨_,fun _ => rfl⟩
 have h0 : f 0 = 0:=by rw [← hf]; rfl
 have hN : sumB B = f B.length:=by rw [← hf,List.take_length]; rfl
 have HS : Hid (∀ i,i < B.length → ∃ b off,ao = some ⟨b,off,none⟩ ∧ ∀ u,Kept w u → u.cell? ⟨b,off + i,none⟩ = some (.int .u8 (h i))):=fun i hi => by
  obtain ⟨b,off,e,hb,hr⟩:=hS (by intro hx; subst hx; simp at hi)
  exact ⟨b,off,e,fun u k => by rw [← hh]; exact (k.below.cell (p:=⟨b,off + i,none⟩) hb).trans (hr i hi)⟩
 have HH : Hid (∀ i,0 ≤ h i ∧ h i < 256):=fun i => by rw [← hh]; exact hB.at i
 have HF : Hid (∀ i,i < B.length → (f i + h i * ((i : Int) + 1)) % 4294967296 = f (i + 1)):=fun i hi => by
  rw [← hf (i + 1),sz_step B i hi,← hf i,hh,Int.mul_comm]
  generalize ((i : Int) + 1) * h i = x
  omega
 have HG : Hid (∀ i,0 ≤ f i ∧ f i < 4294967296):=fun i => by rw [← hf]; omega
 rw [hN]
 obtain ⟨m,hm⟩ : ∃ m,B.length = m:=⟨_,rfl⟩
 rw [hm] at HS HF hlen ⊢
 clear hS hf hh hm hN hB
 go_enter Try.func17,Try.ntmps17
 go_wp2_with fail
 go_loopw [3,4] (fun sv iv wr => ∃ i : Nat,i ≤ m ∧ sv = .int .i64 (f i) ∧ iv = .int .i64 (i : Int) ∧ Kept w wr) (fun _ iv _ => m - (intOf iv).toNat)
 case atStart => exact ⟨0,Nat.zero_le _,by rw [h0],rfl,Kept.refl w⟩
 case round =>
  obtain ⟨i,hi,rfl,rfl,kr⟩:=hrel
  by_cases him : i < m
  ·obtain ⟨b,off,rfl,hc⟩:=HS.out i him
   have c0:=hc wr kr
   have hbd : (0 : Int) ≤ (i : Int) ∧ (i : Int) < (m : Int):=by omega
   have hbd2 : (i : Int) < (m : Int):=by omega
   have z2 : IntKind.i64.wrap ((i : Int) + 1) = (i : Int) + 1:=by rw [wrap_i64]; omega
   have hF:=hid (HF.out i him)
   have hh1:=HH.out i
   have hg1:=HG.out i
   generalize h i = y at *
   generalize hfi : f i = x at *
   have hm1 : 0 ≤ y * ((i : Int) + 1) ∧ y * ((i : Int) + 1) ≤ 256 * 100000001:=⟨Int.mul_nonneg hh1.1 (by omega),by
    have h1 : y * ((i : Int) + 1) ≤ 256 * ((i : Int) + 1):=Int.mul_le_mul_of_nonneg_right (by omega) (by omega)
    have h2 : (256 : Int) * ((i : Int) + 1) ≤ 256 * 100000001:=Int.mul_le_mul_of_nonneg_left (by omega) (by omega)
    omega⟩
   have zy : IntKind.i64.wrap y = y:=by rw [wrap_i64]; omega
   have z3 : IntKind.i64.wrap (y * ((i : Int) + 1)) = y * ((i : Int) + 1):=by rw [wrap_i64]; omega
   have z4 : IntKind.i64.wrap (x + y * ((i : Int) + 1)) = x + y * ((i : Int) + 1):=by rw [wrap_i64]; omega
   have z5 : Int.tmod (x + y * ((i : Int) + 1)) 4294967296 = f (i + 1):=by rw [Int.tmod_eq_emod_of_nonneg (by omega)]; exact hF.out
   clear hc HS HF hm1 hh1 hg1 hfi
   go_wp2_with fail
   go_roundw
   case rel => exact ⟨i + 1,by omega,rfl,by go_num,kr⟩
   case measure => simp [intOf]; omega
  ·obtain rfl : i = m:=by omega
   go_wp2_with fail
   go_ret
   exact ⟨rfl,kr⟩
end Go.Proofs.Ytocjfdiimapojaa
