/- The laws of chapter 23: a state is lent. -/
import Derived.Test.YtocjfdiimapojaaNF
namespace Go.Proofs.Ytocjfdiimapojaa
open Go.ChangeShapes Go.WideShapes Go.ChangeAt Go.RowKit
set_option maxHeartbeats 16000000
set_option maxRecDepth 100000
set_option linter.unusedVariables false
set_option linter.unusedSimpArgs false
theorem lentS_any (v : Value) (s : Sta) (hP : s.P.length < 1000000) (hQ : s.Q.length < 1000000) (hPm : ∀ (i : Nat) (m : Mat),s.P[i]? = some m → m.L.length < 1000000) (hQl : ∀ (i : Nat) (l : List Mat),s.Q[i]? = some l → l.length < 1000000 ∧ ∀ (j : Nat) (m : Mat),l[j]? = some m → m.L.length < 1000000) (w : World) (hS : StI w v s) : Calls Try.prog 20 #[v] w fun e w' => ∃ x,e = .returned x ∧ SnL w.heap.size w' x s ∧ Kept w w':=by
 obtain ⟨pv,qv,rfl,hpI,hqI⟩:=hS
 obtain ⟨pa,pc,rfl⟩:=hpI.len
 obtain ⟨qa,qc,rfl,hqc,hqr⟩:=hqI
 obtain ⟨n,hn⟩ : ∃ n,s.Q.length = n:=⟨_,rfl⟩
 have HQR : Hid (∀ u,Kept w u → ∀ i l,s.Q[i]? = some l → ∃ B off lv,qa = some ⟨B,off,none⟩ ∧ u.cell? ⟨B,off + i,none⟩ = some lv ∧ MlI u lv l ∧ B < w.heap.size):=fun u ku i l hi => by
  obtain ⟨B,off,e,h⟩:=hqr (by intro e; rw [e] at hi; simp at hi)
  obtain ⟨lv,h1,h2⟩:=h i l hi
  have hB:=World.block_lt_of_cell? _ _ h1
  exact ⟨B,off,lv,e,(ku.below.cell (p:=⟨B,off + i,none⟩) hB).trans h1,h2.kept ku,hB⟩
 rw [hn] at hqc hQ ⊢
 have HN:=hid hn
 obtain ⟨M,hM⟩ : ∃ M,w.heap.size = M:=⟨_,rfl⟩
 have HQl:=hid hQl
 have HNum:=hid (show n < 1000000 ∧ n ≤ qc from ⟨hQ,hqc⟩)
 obtain ⟨W0,hW0⟩ : ∃ W0,((w.alloc (.cells #[.int .i64 s.a,.int .i64 s.b,.int .i64 s.d,.slice pa s.P.length pc,.slice qa n qc,.int .i64 s.lo,.int .i64 s.ra] 35)).alloc (.cells #[.int .i64 0,.int .i64 0,.int .i64 0,.slice none 0 0,.slice none 0 0,.int .i64 0,.int .i64 0] 35)).alloc (.cells #[.int .i64 s.a,.int .i64 s.b,.int .i64 s.d,.slice pa s.P.length pc,.slice qa n qc,.int .i64 s.lo,.int .i64 s.ra] 35) = W0:=⟨_,rfl⟩
 have k0 : Kept w W0:=by rw [← hW0]; exact (((Kept.refl w).alloc _ _).alloc _ _).alloc _ _
 have hs0 : W0.heap.size = M + 3:=by rw [← hW0,← hM]; simp
 have bs0 : Bk W0 M [.int .i64 s.a,.int .i64 s.b,.int .i64 s.d,.slice pa s.P.length pc,.slice qa n qc,.int .i64 s.lo,.int .i64 s.ra]:=by rw [← hW0,← hM]; exact (Bk.new w [.int .i64 s.a,.int .i64 s.b,.int .i64 s.d,.slice pa s.P.length pc,.slice qa n qc,.int .i64 s.lo,.int .i64 s.ra] 35).kept (((Kept.refl _).alloc _ _).alloc _ _)
 have bz0 : Bk W0 (M + 1) [.int .i64 0,.int .i64 0,.int .i64 0,.slice none 0 0,.slice none 0 0,.int .i64 0,.int .i64 0]:=by
  have h:=(Bk.new (w.alloc (.cells #[.int .i64 s.a,.int .i64 s.b,.int .i64 s.d,.slice pa s.P.length pc,.slice qa n qc,.int .i64 s.lo,.int .i64 s.ra] 35)) [.int .i64 0,.int .i64 0,.int .i64 0,.slice none 0 0,.slice none 0 0,.int .i64 0,.int .i64 0] 35).kept (show Kept _ (World.alloc _ (.cells #[.int .i64 s.a,.int .i64 s.b,.int .i64 s.d,.slice pa s.P.length pc,.slice qa n qc,.int .i64 s.lo,.int .i64 s.ra] 35)) from (Kept.refl _).alloc _ _)
  rw [World.size_alloc,hM,hW0] at h
  exact h
 have bx0 : Bk W0 (M + 1 + 1) [.int .i64 s.a,.int .i64 s.b,.int .i64 s.d,.slice pa s.P.length pc,.slice qa n qc,.int .i64 s.lo,.int .i64 s.ra]:=by
  have h:=Bk.new ((w.alloc (.cells #[.int .i64 s.a,.int .i64 s.b,.int .i64 s.d,.slice pa s.P.length pc,.slice qa n qc,.int .i64 s.lo,.int .i64 s.ra] 35)).alloc (.cells #[.int .i64 0,.int .i64 0,.int .i64 0,.slice none 0 0,.slice none 0 0,.int .i64 0,.int .i64 0] 35)) [.int .i64 s.a,.int .i64 s.b,.int .i64 s.d,.slice pa s.P.length pc,.slice qa n qc,.int .i64 s.lo,.int .i64 s.ra] 35
  rw [World.size_alloc,World.size_alloc,hM,hW0] at h
  exact h
 have HPc : Hid (Calls Try.prog 38 #[.slice pa s.P.length pc] W0 fun e w' => ∃ lv,e = .returned lv ∧ LnV (M + 3) w' lv s.P ∧ Kept W0 w'):=by
  have:=lentList_any _ s.P hP hPm W0 (hpI.kept k0)
  rw [hs0] at this
  exact this
 have HK0:=hid k0
 have HS0:=hid hs0
 have HMw:=hid hM
 have HBS:=hid bs0
 have HBZ:=hid bz0
 have HBX:=hid bx0
 generalize hsp : s.P.length = pl at *
 generalize hsa : s.a = sa at *
 generalize hsb : s.b = sb at *
 generalize hsd : s.d = sd at *
 generalize hlo : s.lo = lo at *
 generalize hra : s.ra = ra at *
 have HEQ:=hid (show s.P.length = pl ∧ s.a = sa ∧ s.b = sb ∧ s.d = sd ∧ s.lo = lo ∧ s.ra = ra from ⟨hsp,hsa,hsb,hsd,hlo,hra⟩)
 clear hsp hsa hsb hsd hlo hra hQl hqr hpI hP hQ hPm hqc hn k0 hs0
 obtain ⟨x0,x1,x2,x3,x4,x5,x6⟩ : _ ∧ _ ∧ _ ∧ _ ∧ _ ∧ _ ∧ _:=⟨bs0.c 0 _ rfl,bs0.c 1 _ rfl,bs0.c 2 _ rfl,bs0.c 3 _ rfl,bs0.c 4 _ rfl,bs0.c 5 _ rfl,bs0.c 6 _ rfl⟩
 clear bs0 bz0 bx0
 go_enter Try.func20,Try.ntmps20
 go_wp2_with fail
 (try rw [hW0])
 go_at_call 38
 refine HPc.out.mono ?_
 rintro e w1 ⟨pv,rfl,hpv,k1⟩
 obtain ⟨GP,CP,rfl,hCP⟩:=hpv.form
 rw [HEQ.out.1] at hpv hCP ⊢
 have bs1:=HBS.out.kept k1
 have bz1:=HBZ.out.kept k1
 have bx1:=HBX.out.kept k1
 have kw1:=HK0.out.trans k1
 have hs1 : M + 3 ≤ w1.heap.size:=by have:=k1.below.size; have:=HS0.out; omega
 have e3:=bx1.c 3 _ rfl
 have f3:=bx1.fz 3
 have e4:=bx1.c 4 _ rfl
 have f4:=bx1.fz 4
 obtain ⟨w2,hw2⟩ : ∃ w2,(w1.setCell ⟨M + 1 + 1,3,none⟩ (.slice (some ⟨GP,0,none⟩) pl CP)).setCell ⟨M + 1 + 1,4,none⟩ (.slice none 0 0) = w2:=⟨_,rfl⟩
 have kst : KX (fun b => b = M + 1 + 1) w1 w2:=by rw [← hw2]; exact (((Grw.refl (M + 1 + 1) w1).setCell 3 _).setCell 4 _).kx
 have bs2:=hid (bs1.kx kst (by omega))
 have bz2:=hid (bz1.kx kst (by omega))
 have bx2:=hid (show Bk w2 (M + 1 + 1) [.int .i64 sa,.int .i64 sb,.int .i64 sd,.slice (some ⟨GP,0,none⟩) pl CP,.slice none 0 0,.int .i64 lo,.int .i64 ra] by rw [← hw2]; exact (bx1.set 3 _).set 4 _)
 have hp2:=hid (hpv.kx kst (fun b hb => by omega))
 have k2:=hid (kept_of_kx kw1 kst (fun b hb => by have:=HMw.out; omega))
 have s2:=hid (show M + 3 ≤ w2.heap.size by have:=kst.size; omega)
 have y4:=bs1.c 4 _ rfl
 clear hpv kst kw1 k1 bs1 bz1 bx1 hs1
 clear x0 x1 x2 x3 x4 x5 x6 hM
 clear hW0
 go_wp2_with fail
 (try rw [hw2])
 clear hw2 e3 f3 e4 f4 y4
 go_loopw [4] (fun iv wr => ∃ (i : Nat) (qa' : Option Addr) (qc' : Nat),i ≤ n ∧ iv = .int .i64 (i : Int) ∧ Kept w wr ∧ Bk wr M [.int .i64 sa,.int .i64 sb,.int .i64 sd,.slice pa pl pc,.slice qa n qc,.int .i64 lo,.int .i64 ra] ∧ Bk wr (M + 1) [.int .i64 0,.int .i64 0,.int .i64 0,.slice none 0 0,.slice none 0 0,.int .i64 0,.int .i64 0] ∧ Bk wr (M + 1 + 1) [.int .i64 sa,.int .i64 sb,.int .i64 sd,.slice (some ⟨GP,0,none⟩) pl CP,.slice qa' i qc',.int .i64 lo,.int .i64 ra] ∧ LnV (M + 3) wr (.slice (some ⟨GP,0,none⟩) pl CP) s.P ∧ QmN (M + 3) wr (.slice qa' i qc') (s.Q.take i)) (fun iv _ => n - (intOf iv).toNat)
 case atStart => exact ⟨0,none,0,Nat.zero_le _,rfl,k2.out,bs2.out,bz2.out,bx2.out,hp2.out,[],.inl ⟨rfl,rfl,rfl⟩,rfl⟩
 case round =>
  obtain ⟨i,qa',qc',hi,rfl,kr,bs,bz,bx,hpl,hql⟩:=hrel
  have hsz : M + 3 ≤ wr.heap.size:=by have:=bx.lt; omega
  have HBS2:=hid bs
  have HBZ2:=hid bz
  have HBX2:=hid bx
  have HPL:=hid hpl
  have HQL:=hid hql
  have HKR:=hid kr
  have HSz:=hid hsz
  have e4:=bs.c 4 _ rfl
  have g4:=bx.c 4 _ rfl
  clear bs bz bx hpl hql hsz
  by_cases hin : i < n
  ·obtain ⟨l,hl⟩ : ∃ l,s.Q[i]? = some l:=⟨_,List.getElem?_eq_getElem (by rw [HN.out]; exact hin)⟩
   obtain ⟨B,off,lv,rfl,hc,hml,hBl⟩:=HQR.out wr kr i l hl
   have hbd : (0 : Int) ≤ (i : Int) ∧ (i : Int) < (n : Int):=by omega
   have hbd2 : (i : Int) < (n : Int):=by omega
   have z2 : IntKind.i64.wrap ((i : Int) + 1) = (i : Int) + 1:=by have:=HNum.out; rw [wrap_i64]; omega
   have htk : s.Q.take (i + 1) = s.Q.take i ++ [l]:=by
    obtain ⟨h1,h2⟩:=List.getElem?_eq_some_iff.1 hl
    rw [List.take_succ_eq_append_getElem h1,h2]
   have HTk:=hid htk
   have HTl:=hid (show (s.Q.take i).length = i by rw [List.length_take,HN.out]; omega)
   have HLe:=hid (lentList_any lv l (HQl.out i l hl).1 (HQl.out i l hl).2 wr.drew (hml.kept (Kept.refl wr).drew))
   have HII:=hid (show i < n ∧ B < M from ⟨hin,by have:=HMw.out; omega⟩)
   clear hml hl htk kr HQR hBl
   go_wp2_with fail
   refine wp_region_late [9,10,11] (fun u => u.cell? ⟨M + 1 + 1,4,none⟩ = some (.slice qa' i qc') ∧ u.cell? ⟨M,4,none⟩ = some (.slice (some ⟨B,off,none⟩) n qc) ∧ u.cell? ⟨B,off + i,none⟩ = some lv) (by kernel_rfl) (show wr.drew.cell? _ = _ ∧ wr.drew.cell? _ = _ ∧ wr.drew.cell? _ = _ from ⟨g4,e4,hc⟩) (fun hHeld => ?_)
   refine tkD (i:=0) (v:=?_) rfl hHeld ?_
   (try simp only [Act.put,zA,zB,zC,zD,zE,zF])
   refine tkD (i:=1) (v:=?_) rfl hHeld ?_
   (try simp only [Act.put,zA,zB,zC,zD,zE,zF])
   refine tkD (i:=2) (v:=?_) rfl hHeld ?_
   (try simp only [Act.put,zA,zB,zC,zD,zE,zF])
   refine tkD (i:=3) (v:=?_) rfl hHeld ?_
   (try simp only [Act.put,zA,zB,zC,zD,zE,zF])
   refine tkD (i:=4) (v:=?_) rfl hHeld ?_
   (try simp only [Act.put,zA,zB,zC,zD,zE,zF])
   refine tkD (i:=5) (v:=?_) rfl hHeld ?_
   (try simp only [Act.put,zA,zB,zC,zD,zE,zF])
   refine tkD (i:=6) (v:=?_) rfl hHeld ?_
   (try simp only [Act.put,zA,zB,zC,zD,zE,zF])
   refine wpAnyD_step (i:=7) (by kernel_rfl) rfl (fun K hK9 => ?_)
   go_simp
   go_wp2_with fail
   refine HLe.out.mono ?_
   rintro e w5 ⟨lv5,rfl,hlv,k5⟩
   obtain ⟨G5,C5,rfl,hC5⟩:=hlv.form
   have kd5:=(Kept.refl wr).drew.trans k5
   have bs5:=HBS2.out.kept kd5
   have bz5:=HBZ2.out.kept kd5
   have bx5:=HBX2.out.kept kd5
   have hlv5 : LnV (M + 3) w5 _ l:=hlv.mono (by show M + 3 ≤ wr.heap.size; exact HSz.out)
   have hpl5:=HPL.out.kx (kd5.kx fun _ => False) (fun b hb => hb.elim)
   have hql5 : QmN (M + 3) w5 (.slice qa' i qc') (s.Q.take i):=by
    obtain ⟨V,h1,h2⟩:=HQL.out
    exact ⟨V,h1.kept kd5,h2.on fun b cur e hb _ hg => kd5.below.block b (lt_of_block hg)⟩
   have hs5 : M + 3 ≤ w5.heap.size:=by have:=kd5.below.size; have:=HSz.out; omega
   obtain ⟨v',w6,hrun,hq6,k6,kl6⟩:=qn_push (M + 3) w5 _ (s.Q.take i) hql5 _ l hlv5 hs5 (by rw [HTl.out]; have:=HNum.out; omega)
   rw [← HTk.out] at hq6
   obtain ⟨qa6,qc6,rfl⟩ : ∃ qa6 qc6,v' = .slice qa6 (i + 1) qc6:=by
    obtain ⟨V,h1,-⟩:=hq6
    have h2 : (s.Q.take (i + 1)).length = i + 1:=by rw [HTk.out,List.length_append,HTl.out]; rfl
    rw [h2] at h1
    exact h1.form
   rw [HTk.out] at hq6
   have HR:=hid hrun
   have bx6:=bx5.kx k6 (by omega)
   have hbx6:=hid bx6
   have hbs6:=hid (bs5.kx k6 (by omega))
   have hbz6:=hid (bz5.kx k6 (by omega))
   have e6:=bx6.c 4 _ rfl
   have f6:=bx6.fz 4
   have s5 : w5.cell? ⟨M + 1 + 1,4,none⟩ = some (.slice qa' i qc') ∧ w5.cell? ⟨M,4,none⟩ = some (.slice (some ⟨B,off,none⟩) n qc) ∧ w5.cell? ⟨B,off + i,none⟩ = some lv:=⟨bx5.c 4 _ rfl,bs5.c 4 _ rfl,(kd5.below.cell (p:=⟨B,off + i,none⟩) (World.block_lt_of_cell? _ _ hc)).trans hc⟩
   have hk6:=hid (kept_of_kx (HKR.out.trans kd5) k6 (fun b hb => by have:=HMw.out; omega))
   have hql6:=hid hq6
   have hpl6:=hid (show LnV (M + 3) w6 _ s.P from kl6 _ _ hpl5)
   refine hK9.out _ _ s5 (fun hHeld2 => ?_)
   clear hK9 K hlv kd5 bs5 bz5 bx5 hlv5 hpl5 hql5 hs5 hrun hq6 k6 kl6 bx6 hC5 k5
   refine wpAnyD_step (i:=8) (by kernel_rfl) rfl (fun K hK9 => ?_)
   go_simp
   refine hK9.out _ _ (show (World.alloc _ _).cell? _ = _ ∧ (World.alloc _ _).cell? _ = _ ∧ (World.alloc _ _).cell? _ = _ from ⟨(World.cell?_alloc_some _ _ _ (by rw [s5.1]; rfl)).trans s5.1,(World.cell?_alloc_some _ _ _ (by rw [s5.2.1]; rfl)).trans s5.2.1,(World.cell?_alloc_some _ _ _ (by rw [s5.2.2]; rfl)).trans s5.2.2⟩) (fun hHeld3 => ?_)
   clear hK9 K
   (try simp only [Act.put,zA,zB,zC,zD,zE,zF])
   refine wpAnyD_late (i:=9) (by kernel_rfl) rfl rfl (fun K hK9 => ?_)
   rw [if_pos (by rfl)]
   refine oper_append_run _ _ _ rfl _ _ rfl rfl _ _ (HR.out _) ?_
   refine hK9.out _ _ ?_
   clear hK9 K
   (try simp only [Act.put,zA,zB,zC,zD,zE,zF])
   refine wpAnyD_late (i:=10) (by kernel_rfl) rfl rfl (fun K hK9 => ?_)
   go_simp
   refine hK9.out _ _ ?_
   clear hK9 K
   (try simp only [Act.put,zA,zB,zC,zD,zE,zF])
   refine wpAnyD_late (i:=11) (by kernel_rfl) rfl rfl (fun K hK9 => ?_)
   go_simp
   refine hK9.out _ _ ?_
   clear hK9 K
   (try simp only [Act.put,zA,zB,zC,zD,zE,zF])
   refine wpAnyD_done (by kernel_rfl) ?_ _
   (try simp only [Act.put,zA,zB,zC,zD,zE,zF])
   have hbs7:=hid (hbs6.out.far (p:=⟨M + 1 + 1,4,none⟩) (by show M ≠ M + 1 + 1; omega) (.slice qa6 (i + 1) qc6))
   have hbz7:=hid (hbz6.out.far (p:=⟨M + 1 + 1,4,none⟩) (by show M + 1 ≠ M + 1 + 1; omega) (.slice qa6 (i + 1) qc6))
   have hbx7:=hid (hbx6.out.set 4 (.slice qa6 (i + 1) qc6))
   have kst : KX (fun b => b = M + 1 + 1) w6 (w6.setCell ⟨M + 1 + 1,4,none⟩ (.slice qa6 (i + 1) qc6)):=((Grw.refl (M + 1 + 1) w6).setCell 4 _).kx
   have hk7:=hid (kept_of_kx hk6.out kst (fun b hb => by have:=HMw.out; omega))
   have hl7:=hid (hpl6.out.kx kst (fun b hb => by omega))
   have hq7:=hid (show QmN (M + 3) (w6.setCell ⟨M + 1 + 1,4,none⟩ (.slice qa6 (i + 1) qc6)) (.slice qa6 (i + 1) qc6) (s.Q.take (i + 1)) by
    rw [HTk.out]
    obtain ⟨V,h1,h2⟩:=hql6.out
    exact ⟨V,h1.on fun b hb hl => kst.block b hl (by omega),h2.on fun b cur e hb _ hg => kst.block b (lt_of_block hg) (by omega)⟩)
   clear kst e6 f6 s5 hHeld hHeld2 hHeld3
   go_wp2_with fail
   go_roundw
   case rel => exact ⟨i + 1,qa6,qc6,by omega,by go_num,hk7.out,hbs7.out,hbz7.out,hbx7.out,hl7.out,hq7.out⟩
   case measure => simp [intOf]; omega
  ·obtain rfl : i = n:=by omega
   have HTk:=hid (show s.Q.take i = s.Q from List.take_of_length_le (by rw [HN.out]; exact Nat.le_refl _))
   clear HQR HQl kr
   go_wp2_with fail
   refine wp_region_late [9,10,11] (fun u => u.cell? ⟨M + 1 + 1,4,none⟩ = some (.slice qa' i qc') ∧ u.cell? ⟨M,4,none⟩ = some (.slice qa i qc)) (by kernel_rfl) (show wr.drew.cell? _ = _ ∧ wr.drew.cell? _ = _ from ⟨g4,e4⟩) (fun hHeld => ?_)
   refine tkD (i:=0) (v:=?_) rfl hHeld ?_
   (try simp only [Act.put,zA,zB,zC,zD,zE,zF])
   refine tkD (i:=1) (v:=?_) rfl hHeld ?_
   (try simp only [Act.put,zA,zB,zC,zD,zE,zF])
   refine tkD (i:=2) (v:=?_) rfl hHeld ?_
   (try simp only [Act.put,zA,zB,zC,zD,zE,zF])
   refine tkD (i:=6) (v:=?_) rfl hHeld ?_
   (try simp only [Act.put,zA,zB,zC,zD,zE,zF])
   refine tkD (i:=7) (v:=?_) rfl hHeld ?_
   (try simp only [Act.put,zA,zB,zC,zD,zE,zF])
   refine tkD (i:=8) (v:=?_) rfl hHeld ?_
   (try simp only [Act.put,zA,zB,zC,zD,zE,zF])
   have kd5 : Kept wr (wr.drew.alloc (.cells #[.int .i64 (-78),.int .i64 0,.int .i64 0,.slice none 0 0] 54)):=((Kept.refl wr).drew).alloc _ _
   have oK : OwnS (wr.drew.alloc (.cells #[.int .i64 (-78),.int .i64 0,.int .i64 0,.slice none 0 0] 54)) wr.heap.size 1 4 54 (mk4 (-78)):=⟨_,heap_alloc_new wr.drew _,by decide,by simp [maxLen],rfl,rfl⟩
   have bs5:=HBS2.out.kept kd5
   have bz5:=HBZ2.out.kept kd5
   have bx5:=HBX2.out.kept kd5
   have hpl5:=HPL.out.kx (kd5.kx fun _ => False) (fun b hb => hb.elim)
   have hql5 : QmN (M + 3) (wr.drew.alloc (.cells #[.int .i64 (-78),.int .i64 0,.int .i64 0,.slice none 0 0] 54)) (.slice qa' i qc') s.Q:=by
    obtain ⟨V,h1,h2⟩:=HQL.out
    rw [HTk.out] at h1 h2
    exact ⟨V,h1.kept kd5,h2.on fun b cur e hb _ hg => kd5.below.block b (lt_of_block hg)⟩
   obtain ⟨G6,C6,w6,hrun,hC6,hq6,k6,kl6⟩:=qn_end (M + 3) _ _ s.Q hql5 (by have:=kd5.below.size; have:=HSz.out; omega) (by rw [HN.out]; have:=HNum.out; omega) wr.heap.size HSz.out oK
   rw [HN.out] at hrun hC6 hq6
   rw [show (wr.drew.alloc (.cells #[.int .i64 (-78),.int .i64 0,.int .i64 0,.slice none 0 0] 54)).heap.size = wr.heap.size + 1 by rw [World.size_alloc]; rfl] at hrun
   replace hrun : ∀ ty,(Builtin.append_ #[33,33] ty #[.slice qa' i qc',.slice (some ⟨wr.heap.size + 1,0,none⟩) 1 1]).run Try.prog ((wr.alloc (.cells #[.int .i64 (-78),.int .i64 0,.int .i64 0,.slice none 0 0] 54)).alloc (.cells #[.slice (some ⟨wr.heap.size,0,none⟩) 1 1] 32)).drew = .ok (.slice (some ⟨G6,0,none⟩) (i + 1) C6) w6:=hrun
   have hc6 : i ≤ C6:=by omega
   have hc6' : (i : Int) ≤ (C6 : Int):=by omega
   have HR:=hid hrun
   have bx6:=bx5.kx k6 (by omega)
   have hbx6:=hid bx6
   have hbs6:=hid (bs5.kx k6 (by omega))
   have hbz6:=hid (bz5.kx k6 (by omega))
   have e6:=bx6.c 4 _ rfl
   have f6:=bx6.fz 4
   have s5 : (wr.drew.alloc (.cells #[.int .i64 (-78),.int .i64 0,.int .i64 0,.slice none 0 0] 54)).cell? ⟨M + 1 + 1,4,none⟩ = some (.slice qa' i qc') ∧ (wr.drew.alloc (.cells #[.int .i64 (-78),.int .i64 0,.int .i64 0,.slice none 0 0] 54)).cell? ⟨M,4,none⟩ = some (.slice qa i qc):=⟨bx5.c 4 _ rfl,bs5.c 4 _ rfl⟩
   have s6 : (wr.alloc (.cells #[.int .i64 (-78),.int .i64 0,.int .i64 0,.slice none 0 0] 54)).cell? ⟨M + 1 + 1,4,none⟩ = some (.slice qa' i qc') ∧ (wr.alloc (.cells #[.int .i64 (-78),.int .i64 0,.int .i64 0,.slice none 0 0] 54)).cell? ⟨M,4,none⟩ = some (.slice qa i qc):=s5
   have hk6:=hid (kept_of_kx (HKR.out.trans kd5) k6 (fun b hb => by have:=HMw.out; omega))
   have hql6:=hid hq6
   have hpl6:=hid (show LnV (M + 3) w6 _ s.P from kl6 _ _ hpl5)
   have e7:=hbs6.out.c 4 _ rfl
   have HNa:=hid (show wr.heap.size ≠ M ∧ wr.heap.size ≠ M + 1 + 1 from ⟨by have:=HSz.out; omega,by have:=HSz.out; omega⟩)
   clear kd5 bs5 bz5 bx5 hpl5 hql5 hrun hq6 k6 kl6 bx6 oK hC6
   refine wpAnyD_step (i:=3) (by kernel_rfl) rfl (fun K hK9 => ?_)
   go_simp
   refine hK9.out _ _ (s6) (fun hHeld2 => ?_)
   clear hK9 K
   (try simp only [Act.put,zA,zB,zC,zD,zE,zF])
   refine wpAnyD_step (i:=4) (by kernel_rfl) rfl (fun K hK9 => ?_)
   go_simp
   refine hK9.out _ _ (show (World.alloc _ _).cell? _ = _ ∧ (World.alloc _ _).cell? _ = _ from ⟨(World.cell?_alloc_some _ _ _ (by rw [s6.1]; rfl)).trans s6.1,(World.cell?_alloc_some _ _ _ (by rw [s6.2]; rfl)).trans s6.2⟩) (fun hHeld3 => ?_)
   clear hK9 K
   (try simp only [Act.put,zA,zB,zC,zD,zE,zF])
   refine wpAnyD_step (i:=5) (by kernel_rfl) rfl (fun K hK9 => ?_)
   rw [if_pos (by rfl)]
   refine oper_append_run _ _ _ rfl _ _ rfl rfl _ _ (HR.out _) ?_
   refine hK9.out _ _ (⟨e6,e7⟩) (fun hHeld4 => ?_)
   clear hK9 K
   (try simp only [Act.put,zA,zB,zC,zD,zE,zF])
   refine wpAnyD_late (i:=9) (by kernel_rfl) rfl rfl (fun K hK9 => ?_)
   go_simp
   refine hK9.out _ _ ?_
   clear hK9 K
   (try simp only [Act.put,zA,zB,zC,zD,zE,zF])
   refine wpAnyD_late (i:=10) (by kernel_rfl) rfl rfl (fun K hK9 => ?_)
   go_simp
   refine hK9.out _ _ ?_
   clear hK9 K
   (try simp only [Act.put,zA,zB,zC,zD,zE,zF])
   refine wpAnyD_late (i:=11) (by kernel_rfl) rfl rfl (fun K hK9 => ?_)
   go_simp
   refine hK9.out _ _ ?_
   clear hK9 K
   (try simp only [Act.put,zA,zB,zC,zD,zE,zF])
   refine wpAnyD_done (by kernel_rfl) ?_ _
   (try simp only [Act.put,zA,zB,zC,zD,zE,zF])
   have hbs7:=hid (hbs6.out.far (p:=⟨M + 1 + 1,4,none⟩) (by show M ≠ M + 1 + 1; omega) (.slice (some ⟨G6,0,none⟩) i C6))
   have hbx7:=hbx6.out.set 4 (.slice (some ⟨G6,0,none⟩) i C6)
   have hbz7:=hbz6.out.far (p:=⟨M + 1 + 1,4,none⟩) (by show M + 1 ≠ M + 1 + 1; omega) (.slice (some ⟨G6,0,none⟩) i C6)
   have kst : KX (fun b => b = M + 1 + 1) w6 (w6.setCell ⟨M + 1 + 1,4,none⟩ (.slice (some ⟨G6,0,none⟩) i C6)):=((Grw.refl (M + 1 + 1) w6).setCell 4 _).kx
   have hk7:=hid (kept_of_kx hk6.out kst (fun b hb => by have:=HMw.out; omega))
   have hl7:=hid (hpl6.out.kx kst (fun b hb => by omega))
   have hq7:=hid (hql6.out.kx kst (fun b hb => by omega))
   obtain ⟨x0,x1,x2,x3,x4,x5,x6⟩ : _ ∧ _ ∧ _ ∧ _ ∧ _ ∧ _ ∧ _:=⟨hbx7.c 0 _ rfl,hbx7.c 1 _ rfl,hbx7.c 2 _ rfl,hbx7.c 3 _ rfl,hbx7.c 4 _ rfl,hbx7.c 5 _ rfl,hbx7.c 6 _ rfl⟩
   obtain ⟨y0,y1,y2,y3,y4,y5,y6⟩ : _ ∧ _ ∧ _ ∧ _ ∧ _ ∧ _ ∧ _:=⟨hbz7.c 0 _ rfl,hbz7.c 1 _ rfl,hbz7.c 2 _ rfl,hbz7.c 3 _ rfl,hbz7.c 4 _ rfl,hbz7.c 5 _ rfl,hbz7.c 6 _ rfl⟩
   have fz1:=hbz7.fz
   have HBz7:=hid hbz7
   clear hbx7 hbz7 e6 e7 f6 hHeld hHeld2 hHeld3 hHeld4 s5 s6
   obtain ⟨W7,hW7⟩ : ∃ W7,w6.setCell ⟨M + 1 + 1,4,none⟩ (.slice (some ⟨G6,0,none⟩) i C6) = W7:=⟨_,rfl⟩
   rw [hW7] at hk7 hl7 hq7 kst x0 x1 x2 x3 x4 x5 x6 y0 y1 y2 y3 y4 y5 y6 fz1 HBz7 ⊢
   clear hW7 hbs7 hbs6 hbx6 hbz6 kst
   go_wp2_with fail
   have hkf : KX (fun b => b = M + 1) W7 (((((((W7.setCell ⟨M + 1,0,none⟩ (.int .i64 sa)).setCell ⟨M + 1,1,none⟩ (.int .i64 sb)).setCell ⟨M + 1,2,none⟩ (.int .i64 sd)).setCell ⟨M + 1,3,none⟩ (.slice (some ⟨GP,0,none⟩) pl CP)).setCell ⟨M + 1,4,none⟩ (.slice (some ⟨G6,0,none⟩) i C6)).setCell ⟨M + 1,5,none⟩ (.int .i64 lo)).setCell ⟨M + 1,6,none⟩ (.int .i64 ra)):=((((((((Grw.refl (M + 1) W7).setCell 0 _).setCell 1 _).setCell 2 _).setCell 3 _).setCell 4 _).setCell 5 _).setCell 6 _).kx
   have HE:=HEQ.out
   refine bodyPost_ret (v:=.agg #[.int .i64 sa,.int .i64 sb,.int .i64 sd,.slice (some ⟨GP,0,none⟩) pl CP,.slice (some ⟨G6,0,none⟩) i C6,.int .i64 lo,.int .i64 ra]) (by simp [results,Try.results20,go_sem,y0,y1,y2,y3,y4,y5,y6]) rfl ⟨_,rfl,⟨.slice (some ⟨GP,0,none⟩) pl CP,.slice (some ⟨G6,0,none⟩) i C6,?_,?_,?_⟩,?_⟩
   ·rw [HE.2.1,HE.2.2.1,HE.2.2.2.1,HE.2.2.2.2.1,HE.2.2.2.2.2]
   ·rw [HMw.out]
    exact (hl7.out.kx hkf (fun b hb => by omega)).mono (by omega)
   ·rw [HMw.out]
    exact (hq7.out.kx hkf (fun b hb => by omega)).mono (by omega)
   ·exact kept_of_kx hk7.out hkf (fun b hb => by have:=HMw.out; omega)
end Go.Proofs.Ytocjfdiimapojaa
