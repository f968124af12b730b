/- acc's lay where the signs differ: a product is added to the columns. acc's lay of any two finite floats. acc's lay of any two finite floats: what it adds to the columns. acc's add,where both floats are finite. -/
import Derived.Test.YtoflafgbbjinpaaGreatDoorX12
namespace Go.Proofs.YtoflafgbbjinpaaGreatDoor
open Go.ChangeShapes Go.WideShapes Go.ChangeAt Go.RowKit
set_option linter.unusedVariables false
set_option linter.unusedSimpArgs false
set_option maxHeartbeats 16000000
set_option maxRecDepth 100000
theorem mlayn (w : World) (b : Nat) (ac : List Value) (n x y : Int) (C : List Int) (hC : ∀ k,-1152921504606846976 ≤ C.getD k 0 ∧ C.getD k 0 ≤ 1152921504606846976) (lo hi : Int) (hM : MkAt w b ac n C lo hi) (ng : Bool) (a bb e1 e2 : Int) (f s : Nat) (hs : s < 30) (hp : e1 + e2 + 2148 = 30 * (f : Int) + s) (hf : f + 5 ≤ 141) (ha : 0 < a ∧ a < 9007199254740992) (hb : 0 < bb ∧ bb < 9007199254740992) (he1 : -1074 ≤ e1 ∧ e1 ≤ 971) (he2 : -1074 ≤ e2 ∧ e2 ≤ 971) (M0 M1 M2 d0 d1 : Int)
  (hMb : ∀ i,0 ≤ mv M0 M1 M2 i ∧ mv M0 M1 M2 i < 1073741824) (hdb : ∀ j,-1073741824 ≤ dv d0 d1 j ∧ dv d0 d1 j < 1073741824) (hM0 : bits .and .i64 (wrap64 (a * 2 ^ s)) 1073741823 = M0) (hM1 : bits .and .i64 (a / 2 ^ (30 - s)) 1073741823 = M1) (hM2 : a / 2 ^ (60 - s) = M2) (hd0 : bits .and .i64 (-bb) 1073741823 = d0) (hd1 : -bb / 1073741824 = d1)
  (KP1 : Hid (∀ u,Calls Tryz.prog 59 #[.int .i64 x,.int .i64 n] u fun e w' => e = .returned (.tuple #[.bool ng,.int .i64 a,.int .i64 e1,.bool true]) ∧ Kept u w'))
  (KP2 : Hid (∀ u,Calls Tryz.prog 59 #[.int .i64 y,.int .i64 n] u fun e w' => e = .returned (.tuple #[.bool (!ng),.int .i64 bb,.int .i64 e2,.bool true]) ∧ Kept u w')) :
  Calls Tryz.prog 115 #[.pointer (some ⟨b,0,none⟩),.int .i64 x,.int .i64 y] w fun e w' => e = .returned (.tuple #[]) ∧ ∃ C',MkAt w' b ac n C' (min lo f) (max hi (f + 5)) ∧ Ly C C' f 6 (ws M0 M1 M2 3 * dsm d0 d1 2) ∧ Grw b w w':=by
 have HM : Hid (∀ u,Kept w u → MkAt u b ac n C lo hi):=fun u k => hM.kept k
 have HC : Hid (∀ k,-1152921504606846976 ≤ C.getD k 0 ∧ C.getD k 0 ≤ 1152921504606846976):=hC
 have hbw:=hM.lt
 have hlen:=hM.c141
 clear hC
 have y1 : (a == 0) = false:=by rw [beq_eq_false_iff_ne]; omega
 have y2 : (bb == 0) = false:=by rw [beq_eq_false_iff_ne]; omega
 have hw0:=hM.width
 go_enter Tryz.func115,Tryz.ntmps115
 go_wp2_with fail
 refine (KP1.out _).mono ?_
 rintro e w1 ⟨rfl,k1⟩
 clear hw0
 have hw0:=(HM.out _ k1).width
 go_wp2_with fail
 refine (KP2.out _).mono ?_
 rintro e w2 ⟨rfl,k2⟩
 clear hw0
 have k12:=k1.trans k2
 clear k1 k2 KP1 KP2
 have nb : IntKind.i64.wrap (-bb) = -bb:=by rw [wrap_i64]; omega
 have q1 : IntKind.i64.wrap (e1 + e2) = e1 + e2:=by rw [wrap_i64]; omega
 have q2 : IntKind.i64.wrap (e1 + e2 - -2148) = 30 * (f : Int) + s:=by rw [wrap_i64]; omega
 have q3 : (30 * (f : Int) + s).tdiv 30 = f:=by
  rw [Int.tdiv_eq_ediv_of_nonneg (by omega)]; omega
 have q4 : (30 * (f : Int) + s).tmod 30 = s:=by
  rw [Int.tmod_eq_emod_of_nonneg (by omega)]; omega
 have q5 : IntKind.i64.wrap (f : Int) = f:=by rw [wrap_i64]; omega
 have q6 : IntKind.i64.wrap ((f : Int) + 5) = (f : Int) + 5:=by rw [wrap_i64]; omega
 have q7 : IntKind.i64.wrap (30 - (s : Int)) = 30 - s:=by rw [wrap_i64]; omega
 have q8 : IntKind.i64.wrap (60 - (s : Int)) = 60 - s:=by rw [wrap_i64]; omega
 go_upto_region 7 with fail
 have m7:=HM.out _ k12
 have l0:=m7.low
 have l1:=m7.high
 have fz:=m7.fz
 go_region
 have m8:=((m7.setLow (min lo f)).setHigh (max hi (f + 5))).kept (Kept.refl _).drew
 have g8 : Grw b w (((w2.setCell ⟨b,148,none⟩ (.int .i64 (min lo f))).setCell ⟨b,149,none⟩ (.int .i64 (max hi (f + 5)))).drew):=(((k12.toGrw b).setCell 148 _).setCell 149 _).drew
 clear l0 l1 fz m7 q1 q2 q3 q4 q5 q6
 go_upto_region 8 with fail
 obtain ⟨X8,hX8⟩ : ∃ X,X = ((w2.setCell ⟨b,148,none⟩ (.int .i64 (min lo f))).setCell ⟨b,149,none⟩ (.int .i64 (max hi (f + 5)))).drew:=⟨_,rfl⟩
 rw [← hX8] at m8 g8 ⊢
 clear hX8
 obtain ⟨LO,hLO⟩ : ∃ LO,LO = min lo (f : Int):=⟨_,rfl⟩
 obtain ⟨HI,hHI⟩ : ∃ HI,HI = max hi ((f : Int) + 5):=⟨_,rfl⟩
 rw [← hLO,← hHI] at m8 ⊢
 go_region
 (try rw [hM0]); (try rw [hM1]); (try rw [hM2])
 have hb8 : b < X8.heap.size:=m8.lt
 obtain ⟨p,hp8⟩ : ∃ p,p = X8.heap.size:=⟨_,rfl⟩
 have b9 : ((X8.alloc (.cells #[.int .i64 M0,.int .i64 M1,.int .i64 M2] 178)).drew).heap[p]? = some (.cells #[.int .i64 M0,.int .i64 M1,.int .i64 M2] 178 (0,0)):=by
  have k : Kept (X8.alloc (.cells #[.int .i64 M0,.int .i64 M1,.int .i64 M2] 178)) (X8.alloc (.cells #[.int .i64 M0,.int .i64 M1,.int .i64 M2] 178)).drew:=(Kept.refl _).drew
  rw [k.below.block p (by rw [hp8]; simp),hp8]
  exact heap_alloc_new X8 _
 have m9:=m8.kept (((Kept.refl X8).alloc #[.int .i64 M0,.int .i64 M1,.int .i64 M2] 178).drew)
 have g9 : Grw b w ((X8.alloc (.cells #[.int .i64 M0,.int .i64 M1,.int .i64 M2] 178)).drew):=g8.trans ((((Kept.refl X8).alloc #[.int .i64 M0,.int .i64 M1,.int .i64 M2] 178).drew).toGrw b)
 rw [← hp8]
 obtain ⟨X9,hX9⟩ : ∃ X,X = (X8.alloc (.cells #[.int .i64 M0,.int .i64 M1,.int .i64 M2] 178)).drew:=⟨_,rfl⟩
 rw [← hX9] at b9 m9 g9 ⊢
 have hpb : p ≠ b:=by omega
 clear hX9 hp8 hb8 g8 m8 q7 q8
 have H9 : Hid (MkAt X9 b ac n C LO HI ∧ X9.heap[p]? = some (.cells #[.int .i64 M0,.int .i64 M1,.int .i64 M2] 178 (0,0)) ∧ Grw b w X9):=⟨m9,b9,g9⟩
 clear m9 b9 g9 HM
 go_wp2_with fail
 go_loopw [96] (fun iv wr => ∃ (i : Nat) (Ci : List Int),i ≤ 3 ∧ iv = .int .i64 i ∧ MkAt wr b ac n Ci LO HI ∧ wr.heap[p]? = some (.cells #[.int .i64 M0,.int .i64 M1,.int .i64 M2] 178 (0,0)) ∧ Grw b w wr ∧ Ly C Ci f (2 * i) (ws M0 M1 M2 i * dsm d0 d1 2)) (fun iv _ => 3 - (intOf iv).toNat)
 case atStart => exact ⟨0,C,by omega,rfl,H9.out.1,H9.out.2.1,H9.out.2.2,⟨hlen,by simp [ws],fun k => by simp,fun k _ => rfl⟩⟩
 case round =>
  clear H9
  obtain ⟨i,Ci,hi3,rfl,hm,hbk,hg,hL⟩:=hrel
  have HR : Hid (MkAt wr b ac n Ci LO HI ∧ wr.heap[p]? = some (.cells #[.int .i64 M0,.int .i64 M1,.int .i64 M2] 178 (0,0)) ∧ Grw b w wr ∧ Ly C Ci f (2 * i) (ws M0 M1 M2 i * dsm d0 d1 2)):=⟨hm,hbk,hg,hL⟩
  clear hm hbk hg hL
  by_cases hi : i < 3
  ·have g1 : (i : Int) < 3:=by omega
   go_upto_region 13 with fail
   obtain ⟨D,hD⟩ : ∃ D,D = ws M0 M1 M2 i * dsm d0 d1 2:=⟨_,rfl⟩
   go_loopw [104] (fun jv wr => ∃ (j : Nat) (Cj : List Int),j ≤ 2 ∧ jv = .int .i64 j ∧ MkAt wr b ac n Cj LO HI ∧ wr.heap[p]? = some (.cells #[.int .i64 M0,.int .i64 M1,.int .i64 M2] 178 (0,0)) ∧ Grw b w wr ∧ Ly C Cj f (2 * i + j) (ws M0 M1 M2 i * dsm d0 d1 2 + mv M0 M1 M2 i * 2 ^ (30 * i) * dsm d0 d1 j)) (fun jv _ => 2 - (intOf jv).toNat)
   case atStart => exact ⟨0,Ci,by omega,rfl,HR.out.1,HR.out.2.1,HR.out.2.2.1,by simpa [dsm] using HR.out.2.2.2⟩
   case round =>
    clear HR
    obtain ⟨j,Cj,hj2,rfl,hm,hbk,hg,hL⟩:=hrel
    by_cases hj : j < 2
    ·have g2 : (j : Int) < 2:=by omega
     have z1w : IntKind.i64.wrap ((j : Int) + 1) = (j : Int) + 1:=by rw [wrap_i64]; omega
     have HR2 : Hid (Grw b w wr ∧ Ly C Cj f (2 * i + j) (ws M0 M1 M2 i * dsm d0 d1 2 + mv M0 M1 M2 i * 2 ^ (30 * i) * dsm d0 d1 j) ∧ wr.heap[p]? = some (.cells #[.int .i64 M0,.int .i64 M1,.int .i64 M2] 178 (0,0))):=⟨hg,hL,hbk⟩
     have hcl : wr.cell? ⟨p,i,none⟩ = some (.int .i64 (mv M0 M1 M2 i)):=by
      have h3 : i = 0 ∨ i = 1 ∨ i = 2:=by omega
      rcases h3 with rfl | rfl | rfl <;> simp [World.cell?,hbk,mv]
     have hmb:=hMb i
     have hdj:=hdb j
     obtain ⟨Mi,hMi⟩ : ∃ Mi,Mi = mv M0 M1 M2 i:=⟨_,rfl⟩
     obtain ⟨P,hP⟩ : ∃ P,P = Mi * dv d0 d1 j:=⟨_,rfl⟩
     obtain ⟨Q,hQ⟩ : ∃ Q,Q = P % 1073741824:=⟨_,rfl⟩
     rw [← hMi] at hcl hmb
     have HMi : Hid (Mi = mv M0 M1 M2 i):=hMi
     have HP : Hid (P = Mi * dv d0 d1 j):=hP
     have HQ : Hid (Q = P % 1073741824):=hQ
     have hPb : -1152921504606846976 ≤ P ∧ P < 1152921504606846976:=by
      rw [hP]
      exact mul_bound Mi _ hmb hdj
     clear hMi hP hQ
     have w1 : IntKind.i64.wrap ((f : Int) + i) = (f : Int) + i:=by rw [wrap_i64]; omega
     clear hbk hg hL
     have hj01 : j = 0 ∨ j = 1:=by omega
     rcases hj01 with rfl | rfl
     ·have hwP : IntKind.i64.wrap (Mi * d0) = P:=by
       have e : P = Mi * d0:=HP.out
       rw [← e,wrap_i64]
       omega
      have hix:=index2_0 (.int .i64 d0) (.int .i64 d1)
      obtain ⟨c0,hc0⟩ : ∃ c,c = Cj.getD (f + i) 0:=⟨_,rfl⟩
      obtain ⟨c1,hc1⟩ : ∃ c,c = Cj.getD (f + i + 1) 0:=⟨_,rfl⟩
      have c16:=hm.col (f + i) (by omega)
      rw [← hc0] at c16
      have HC0 : Hid (c0 = Cj.getD (f + i) 0 ∧ c1 = Cj.getD (f + i + 1) 0):=⟨hc0,hc1⟩
      have fz:=hm.fz
      have w3 : IntKind.i64.wrap ((f : Int) + i) = (f : Int) + i:=by rw [wrap_i64]; omega
      have w4 : IntKind.i64.wrap ((f : Int) + i + 1) = (f : Int) + i + 1:=by rw [wrap_i64]; omega
      have mk : bits .and .i64 P 1073741823 = Q:=by rw [mask30]; exact HQ.out.symm
      have hn1:=HC.out (f + i)
      have hn2:=HR2.out.2.1.near (f + i)
      have hn3:=HC.out (f + i + 1)
      have hn4:=HR2.out.2.1.near (f + i + 1)
      have hqq:=HQ.out
      obtain ⟨v0,hv0⟩ : ∃ v,v = c0 + Q:=⟨_,rfl⟩
      obtain ⟨v1,hv1⟩ : ∃ v,v = c1 + P / 1073741824:=⟨_,rfl⟩
      have hw5 : IntKind.i64.wrap (c0 + Q) = v0:=by rw [hv0,wrap_i64]; omega
      have hw6 : IntKind.i64.wrap (c1 + P / 1073741824) = v1:=by rw [hv1,wrap_i64]; omega
      have HV : Hid (v0 = c0 + Q ∧ v1 = c1 + P / 1073741824):=⟨hv0,hv1⟩
      have m16:=(hm.setCol (f + i) (by omega) v0).kept (Kept.refl _).drew
      have hlt : ((f : Int) + i) < 141:=by omega
      have hlt2 : ((f : Int) + i + 1) < 141:=by omega
      clear hc0 hc1 hv0 hv1 hn1 hn2 hn3 hn4 hqq
      go_upto_region 16 with fail
      go_region
      obtain ⟨X16,hX16⟩ : ∃ X,X = (wr.setCell ⟨b,7 + (f + i),none⟩ (.int .i64 v0)).drew:=⟨_,rfl⟩
      have g16 : Grw b wr X16:=by rw [hX16]; exact ((Grw.refl b wr).setCell _ _).drew
      rw [← hX16] at m16
      have c17:=m16.col (f + i + 1) (by omega)
      rw [getD_set _ _ _ _ (by have:=hm.c141; omega),if_neg (by omega),← HC0.out.2] at c17
      have fz17:=m16.fz
      clear c16 fz
      go_upto_region 17 with fail
      rw [← hX16]
      clear hX16
      go_region
      have m17:=(m16.setCol (f + i + 1) (by omega) v1).kept (Kept.refl _).drew
      have g17 : Grw b wr ((X16.setCell ⟨b,7 + (f + i + 1),none⟩ (.int .i64 v1)).drew):=(g16.setCell _ _).drew
      have HF : Hid (MkAt ((X16.setCell ⟨b,7 + (f + i + 1),none⟩ (.int .i64 v1)).drew) b ac n ((Cj.set (f + i) v0).set (f + i + 1) v1) LO HI ∧ Grw b wr ((X16.setCell ⟨b,7 + (f + i + 1),none⟩ (.int .i64 v1)).drew)):=⟨m17,g17⟩
      clear m17 g17 m16 g16 c17 fz17
      go_wp2_with fail
      go_roundw
      case rel =>
       have hst:=HR2.out.2.1.step (i) (by omega) hf P hPb
       have e1:=HC0.out
       have e2:=HV.out
       have e3:=HQ.out
       have hl:=HR2.out.2.1.len
       rw [show f + (i) = f + i by omega,getD_set _ _ _ _ (by omega),if_neg (by omega),← e1.1,← e1.2,← e3,← e2.1,← e2.2] at hst
       refine ⟨0 + 1,_,by omega,by go_num,HF.out.1,(HF.out.2.grown.block p (blk_lt HR2.out.2.2) (by simpa using hpb)).trans HR2.out.2.2,HR2.out.1.trans HF.out.2,?_⟩
       rw [HP.out,HMi.out] at hst
       have e : ws M0 M1 M2 i * dsm d0 d1 2 + mv M0 M1 M2 i * 2 ^ (30 * i) * dsm d0 d1 0 + mv M0 M1 M2 i * dv d0 d1 0 * 2 ^ (30 * i) = ws M0 M1 M2 i * dsm d0 d1 2 + mv M0 M1 M2 i * 2 ^ (30 * i) * dsm d0 d1 1:=by
        show _ + mv M0 M1 M2 i * 2 ^ (30 * i) * 0 + mv M0 M1 M2 i * d0 * 2 ^ (30 * i) = _ + mv M0 M1 M2 i * 2 ^ (30 * i) * d0
        rw [Int.mul_zero,Int.add_zero,Int.mul_right_comm]
       rw [e] at hst
       exact hst
      case measure => simp [intOf]
     ·have hwP : IntKind.i64.wrap (Mi * d1) = P:=by
       have e : P = Mi * d1:=HP.out
       rw [← e,wrap_i64]
       omega
      have hix:=index2_1 (.int .i64 d0) (.int .i64 d1)
      obtain ⟨c0,hc0⟩ : ∃ c,c = Cj.getD (f + i + 1) 0:=⟨_,rfl⟩
      obtain ⟨c1,hc1⟩ : ∃ c,c = Cj.getD (f + i + 1 + 1) 0:=⟨_,rfl⟩
      have c16:=hm.col (f + i + 1) (by omega)
      rw [← hc0] at c16
      have HC0 : Hid (c0 = Cj.getD (f + i + 1) 0 ∧ c1 = Cj.getD (f + i + 1 + 1) 0):=⟨hc0,hc1⟩
      have fz:=hm.fz
      have w3 : IntKind.i64.wrap ((f : Int) + i + 1) = (f : Int) + i + 1:=by rw [wrap_i64]; omega
      have w4 : IntKind.i64.wrap ((f : Int) + i + 1 + 1) = (f : Int) + i + 1 + 1:=by rw [wrap_i64]; omega
      have mk : bits .and .i64 P 1073741823 = Q:=by rw [mask30]; exact HQ.out.symm
      have hn1:=HC.out (f + i + 1)
      have hn2:=HR2.out.2.1.near (f + i + 1)
      have hn3:=HC.out (f + i + 1 + 1)
      have hn4:=HR2.out.2.1.near (f + i + 1 + 1)
      have hqq:=HQ.out
      obtain ⟨v0,hv0⟩ : ∃ v,v = c0 + Q:=⟨_,rfl⟩
      obtain ⟨v1,hv1⟩ : ∃ v,v = c1 + P / 1073741824:=⟨_,rfl⟩
      have hw5 : IntKind.i64.wrap (c0 + Q) = v0:=by rw [hv0,wrap_i64]; omega
      have hw6 : IntKind.i64.wrap (c1 + P / 1073741824) = v1:=by rw [hv1,wrap_i64]; omega
      have HV : Hid (v0 = c0 + Q ∧ v1 = c1 + P / 1073741824):=⟨hv0,hv1⟩
      have m16:=(hm.setCol (f + i + 1) (by omega) v0).kept (Kept.refl _).drew
      have hlt : ((f : Int) + i + 1) < 141:=by omega
      have hlt2 : ((f : Int) + i + 1 + 1) < 141:=by omega
      clear hc0 hc1 hv0 hv1 hn1 hn2 hn3 hn4 hqq
      go_upto_region 16 with fail
      go_region
      obtain ⟨X16,hX16⟩ : ∃ X,X = (wr.setCell ⟨b,7 + (f + i + 1),none⟩ (.int .i64 v0)).drew:=⟨_,rfl⟩
      have g16 : Grw b wr X16:=by rw [hX16]; exact ((Grw.refl b wr).setCell _ _).drew
      rw [← hX16] at m16
      have c17:=m16.col (f + i + 1 + 1) (by omega)
      rw [getD_set _ _ _ _ (by have:=hm.c141; omega),if_neg (by omega),← HC0.out.2] at c17
      have fz17:=m16.fz
      clear c16 fz
      go_upto_region 17 with fail
      rw [← hX16]
      clear hX16
      go_region
      have m17:=(m16.setCol (f + i + 1 + 1) (by omega) v1).kept (Kept.refl _).drew
      have g17 : Grw b wr ((X16.setCell ⟨b,7 + (f + i + 1 + 1),none⟩ (.int .i64 v1)).drew):=(g16.setCell _ _).drew
      have HF : Hid (MkAt ((X16.setCell ⟨b,7 + (f + i + 1 + 1),none⟩ (.int .i64 v1)).drew) b ac n ((Cj.set (f + i + 1) v0).set (f + i + 1 + 1) v1) LO HI ∧ Grw b wr ((X16.setCell ⟨b,7 + (f + i + 1 + 1),none⟩ (.int .i64 v1)).drew)):=⟨m17,g17⟩
      clear m17 g17 m16 g16 c17 fz17
      go_wp2_with fail
      go_roundw
      case rel =>
       have hst:=HR2.out.2.1.step (i + 1) (by omega) hf P hPb
       have e1:=HC0.out
       have e2:=HV.out
       have e3:=HQ.out
       have hl:=HR2.out.2.1.len
       rw [show f + (i + 1) = f + i + 1 by omega,getD_set _ _ _ _ (by omega),if_neg (by omega),← e1.1,← e1.2,← e3,← e2.1,← e2.2] at hst
       refine ⟨1 + 1,_,by omega,by go_num,HF.out.1,(HF.out.2.grown.block p (blk_lt HR2.out.2.2) (by simpa using hpb)).trans HR2.out.2.2,HR2.out.1.trans HF.out.2,?_⟩
       rw [HP.out,HMi.out] at hst
       have e : ws M0 M1 M2 i * dsm d0 d1 2 + mv M0 M1 M2 i * 2 ^ (30 * i) * dsm d0 d1 1 + mv M0 M1 M2 i * dv d0 d1 1 * 2 ^ (30 * (i + 1)) = ws M0 M1 M2 i * dsm d0 d1 2 + mv M0 M1 M2 i * 2 ^ (30 * i) * dsm d0 d1 2:=by
        show _ + mv M0 M1 M2 i * 2 ^ (30 * i) * d0 + mv M0 M1 M2 i * d1 * 2 ^ (30 * (i + 1)) = _ + mv M0 M1 M2 i * 2 ^ (30 * i) * (d0 + d1 * 1073741824)
        rw [pow30i,Int.mul_add,Int.add_assoc]
        congr 2
        simp only [Int.mul_assoc,Int.mul_comm,Int.mul_left_comm]
       rw [e] at hst
       exact hst
      case measure => simp [intOf]
    ·have g2 : ¬ (j : Int) < 2:=by omega
     obtain rfl : j = 2:=by omega
     have z2w : IntKind.i64.wrap ((i : Int) + 1) = (i : Int) + 1:=by rw [wrap_i64]; omega
     have HF : Hid (MkAt wr b ac n Cj LO HI ∧ wr.heap[p]? = some (.cells #[.int .i64 M0,.int .i64 M1,.int .i64 M2] 178 (0,0)) ∧ Grw b w wr ∧ Ly C Cj f (2 * i + 2) (ws M0 M1 M2 i * dsm d0 d1 2 + mv M0 M1 M2 i * 2 ^ (30 * i) * dsm d0 d1 2)):=⟨hm,hbk,hg,hL⟩
     clear hm hbk hg hL
     go_wp2_with fail
     go_roundw
     case rel =>
      refine ⟨i + 1,Cj,by omega,by go_num,HF.out.1,HF.out.2.1,HF.out.2.2.1,?_⟩
      have h:=HF.out.2.2.2
      rw [← Int.add_mul] at h
      have e : ws M0 M1 M2 i + mv M0 M1 M2 i * 2 ^ (30 * i) = ws M0 M1 M2 (i + 1):=by
       have h3 : i = 0 ∨ i = 1 ∨ i = 2:=by omega
       rcases h3 with rfl | rfl | rfl <;> simp [ws,mv]
      rw [e] at h
      exact h
     case measure => simp [intOf]; omega
  ·have g1 : ¬ (i : Int) < 3:=by omega
   obtain rfl : i = 3:=by omega
   go_wp2_with fail
   go_end0
   exact ⟨rfl,Ci,by rw [← hLO,← hHI]; exact HR.out.1,HR.out.2.2.2,HR.out.2.2.1⟩
theorem wrap64_mask (z : Int) : bits .and .i64 (wrap64 z) 1073741823 = z % 1073741824:=by
 rw [mask30]
 unfold wrap64
 omega
theorem div_shift (a : Int) (s t : Nat) (h : s ≤ t) : a / 2 ^ (t - s) = a * 2 ^ s / 2 ^ t:=by
 have e : (2 : Int) ^ t = 2 ^ (t - s) * 2 ^ s:=by rw [← Int.pow_add]; congr 1; omega
 rw [e,Int.mul_ediv_mul_of_pos_left _ _ (Int.pow_pos (by decide))]
theorem moved_sum (a : Int) (s : Nat) (hs : s < 30) (M0 M1 M2 : Int) (h0 : bits .and .i64 (wrap64 (a * 2 ^ s)) 1073741823 = M0) (h1 : bits .and .i64 (a / 2 ^ (30 - s)) 1073741823 = M1) (h2 : a / 2 ^ (60 - s) = M2) : ws M0 M1 M2 3 = a * 2 ^ s:=by
 rw [wrap64_mask] at h0
 rw [mask30,div_shift a s 30 (by omega)] at h1
 rw [div_shift a s 60 (by omega)] at h2
 generalize a * 2 ^ s = Z at *
 show M0 + M1 * 1073741824 + M2 * 1152921504606846976 = Z
 rw [show (2 : Int) ^ 30 = 1073741824 from rfl] at h1
 rw [show (2 : Int) ^ 60 = 1152921504606846976 from rfl] at h2
 omega
theorem moved_bound (a : Int) (ha : 0 < a ∧ a < 9007199254740992) (s : Nat) (hs : s < 30) (M0 M1 M2 : Int) (h0 : bits .and .i64 (wrap64 (a * 2 ^ s)) 1073741823 = M0) (h1 : bits .and .i64 (a / 2 ^ (30 - s)) 1073741823 = M1) (h2 : a / 2 ^ (60 - s) = M2) : ∀ i,0 ≤ mv M0 M1 M2 i ∧ mv M0 M1 M2 i < 1073741824:=by
 rw [wrap64_mask] at h0
 rw [mask30] at h1
 have e : (2 : Int) ^ (60 - s) = 2 ^ (29 - s) * 2147483648:=by
  rw [show (2147483648 : Int) = 2 ^ 31 from rfl,← Int.pow_add]; congr 1; omega
 have hp : (0 : Int) < 2 ^ (29 - s):=Int.pow_pos (by decide)
 have h3 : a / 2 ^ (60 - s) ≤ a / 2147483648:=by
  rw [e,Int.mul_comm,← Int.ediv_ediv_of_nonneg (by decide)]
  exact Int.ediv_le_self _ (Int.ediv_nonneg (by omega) (by decide))
 have h4 : 0 ≤ a / 2 ^ (60 - s):=Int.ediv_nonneg (by omega) (by rw [e]; omega)
 intro i
 match i with
 | 0 => show 0 ≤ M0 ∧ M0 < 1073741824; omega
 | 1 => show 0 ≤ M1 ∧ M1 < 1073741824; omega
 | i + 2 => show 0 ≤ M2 ∧ M2 < 1073741824; omega
theorem parts_sum (B d0 d1 : Int) (h0 : bits .and .i64 B 1073741823 = d0) (h1 : B / 1073741824 = d1) : dsm d0 d1 2 = B:=by
 rw [mask30] at h0
 show d0 + d1 * 1073741824 = B
 omega
theorem parts_bound (B d0 d1 : Int) (hB : -9007199254740992 < B ∧ B < 9007199254740992) (h0 : bits .and .i64 B 1073741823 = d0) (h1 : B / 1073741824 = d1) : ∀ j,-1073741824 ≤ dv d0 d1 j ∧ dv d0 d1 j < 1073741824:=by
 rw [mask30] at h0
 intro j
 match j with
 | 0 => show -1073741824 ≤ d0 ∧ d0 < 1073741824; omega
 | j + 1 => show -1073741824 ≤ d1 ∧ d1 < 1073741824; omega
structure Inv (C : List Int) (lo hi : Int) : Prop where
 lo0 : 0 ≤ lo ∧ lo ≤ 141
 hi0 : 0 ≤ hi ∧ hi ≤ 141
 zero : ∀ k : Nat,((k : Int) < lo ∨ hi ≤ (k : Int)) → C.getD k 0 = 0
def pval (n x y : Int) : Int:=sg (pneg x n != pneg y n) (pmag x n * pmag y n * 2 ^ (pexp x n + pexp y n + 2148).toNat)
theorem mlay0 (w : World) (b : Nat) (ac : List Value) (n x y : Int) (C : List Int) (lo hi : Int) (hM : MkAt w b ac n C lo hi) (ng1 ng2 : Bool) (a bb e1 e2 : Int) (hz : a = 0 ∨ bb = 0)
  (KP1 : Hid (∀ u,Calls Tryz.prog 59 #[.int .i64 x,.int .i64 n] u fun e w' => e = .returned (.tuple #[.bool ng1,.int .i64 a,.int .i64 e1,.bool true]) ∧ Kept u w'))
  (KP2 : Hid (∀ u,Calls Tryz.prog 59 #[.int .i64 y,.int .i64 n] u fun e w' => e = .returned (.tuple #[.bool ng2,.int .i64 bb,.int .i64 e2,.bool true]) ∧ Kept u w')) :
  Calls Tryz.prog 115 #[.pointer (some ⟨b,0,none⟩),.int .i64 x,.int .i64 y] w fun e w' => e = .returned (.tuple #[]) ∧ Kept w w':=by
 have HM : Hid (∀ u,Kept w u → MkAt u b ac n C lo hi):=fun u k => hM.kept k
 have hw0:=hM.width
 by_cases ha : a = 0
 ·subst ha
  go_enter Tryz.func115,Tryz.ntmps115
  go_wp2_with fail
  refine (KP1.out _).mono ?_
  rintro e w1 ⟨rfl,k1⟩
  clear hw0
  have hw0:=(HM.out _ k1).width
  go_wp2_with fail
  refine (KP2.out _).mono ?_
  rintro e w2 ⟨rfl,k2⟩
  clear hw0
  go_wp2_with fail
  exact bodyPost_ret (v:=.tuple #[]) (by simp [results,Tryz.results115,go_sem]) rfl ⟨rfl,k1.trans k2⟩
 ·obtain rfl : bb = 0:=by omega
  have y1 : (a == 0) = false:=by rw [beq_eq_false_iff_ne]; exact ha
  go_enter Tryz.func115,Tryz.ntmps115
  go_wp2_with fail
  refine (KP1.out _).mono ?_
  rintro e w1 ⟨rfl,k1⟩
  clear hw0
  have hw0:=(HM.out _ k1).width
  go_wp2_with fail
  refine (KP2.out _).mono ?_
  rintro e w2 ⟨rfl,k2⟩
  clear hw0
  go_wp2_with fail
  exact bodyPost_ret (v:=.tuple #[]) (by simp [results,Tryz.results115,go_sem]) rfl ⟨rfl,k1.trans k2⟩
theorem inv_step {C C' : List Int} {lo hi : Int} {f st : Nat} {V : Int} (h : Inv C lo hi) (hf : f + 5 ≤ 141) (hL : Ly C C' f st V) : Inv C' (min lo f) (max hi (f + 5)):=by
 have h1:=h.lo0
 have h2:=h.hi0
 refine ⟨by omega,by omega,fun k hk => ?_⟩
 rw [hL.out k (by omega)]
 exact h.zero k (by omega)
/- a finite float of the width,by its parts -/
structure FinP (n x : Int) : Prop where
 r1 : -9223372036854775808 ≤ x
 r2 : x ≤ 9223372036854775807
 fin : fin x n = true
 m : 0 ≤ pmag x n ∧ pmag x n < 9007199254740992
 e : -1074 ≤ pexp x n ∧ pexp x n ≤ 971
theorem lay_fin (w : World) (b : Nat) (ac : List Value) (n x y : Int) (C : List Int) (hC : ∀ k,-1152921504606846976 ≤ C.getD k 0 ∧ C.getD k 0 ≤ 1152921504606846976) (lo hi : Int) (hM : MkAt w b ac n C lo hi) (hI : Inv C lo hi) (hx : FinP n x) (hy : FinP n y) :
  Calls Tryz.prog 115 #[.pointer (some ⟨b,0,none⟩),.int .i64 x,.int .i64 y] w fun e w' => e = .returned (.tuple #[]) ∧ ∃ C' lo' hi',MkAt w' b ac n C' lo' hi' ∧ Inv C' lo' hi' ∧ cv C' = cv C + pval n x y ∧ (∀ k,-12884901888 ≤ C'.getD k 0 - C.getD k 0 ∧ C'.getD k 0 - C.getD k 0 ≤ 12884901888) ∧ Grw b w w':=by
 have KP1 : Hid (∀ u,Calls Tryz.prog 59 #[.int .i64 x,.int .i64 n] u fun e w' => e = .returned (.tuple #[.bool (pneg x n),.int .i64 (pmag x n),.int .i64 (pexp x n),.bool true]) ∧ Kept u w'):=fun u => by
  have:=parts_any x n hx.r1 hx.r2 u
  rw [hx.fin] at this
  exact this
 have KP2 : Hid (∀ u,Calls Tryz.prog 59 #[.int .i64 y,.int .i64 n] u fun e w' => e = .returned (.tuple #[.bool (pneg y n),.int .i64 (pmag y n),.int .i64 (pexp y n),.bool true]) ∧ Kept u w'):=fun u => by
  have:=parts_any y n hy.r1 hy.r2 u
  rw [hy.fin] at this
  exact this
 have m1:=hx.m
 have m2:=hy.m
 have e1:=hx.e
 have e2:=hy.e
 unfold pval
 generalize pneg x n = ng1 at *
 generalize pneg y n = ng2 at *
 generalize pmag x n = a at *
 generalize pmag y n = bb at *
 generalize pexp x n = x1 at *
 generalize pexp y n = x2 at *
 by_cases hz : a = 0 ∨ bb = 0
 ·refine (mlay0 w b ac n x y C lo hi hM ng1 ng2 a bb x1 x2 hz KP1 KP2).mono ?_
  rintro e w' ⟨rfl,k⟩
  refine ⟨rfl,C,lo,hi,hM.kept k,hI,?_,fun k => by omega,k.toGrw b⟩
  have : a * bb = 0:=by rcases hz with h | h <;> simp [h]
  rw [this]
  simp [sg]
 ·obtain ⟨f,hf⟩ : ∃ f : Nat,(x1 + x2 + 2148) / 30 = (f : Int):=⟨((x1 + x2 + 2148) / 30).toNat,by omega⟩
  obtain ⟨s,hs⟩ : ∃ s : Nat,(x1 + x2 + 2148) % 30 = (s : Int):=⟨((x1 + x2 + 2148) % 30).toNat,by omega⟩
  have hp : x1 + x2 + 2148 = 30 * (f : Int) + s:=by omega
  have ht : (x1 + x2 + 2148).toNat = s + 30 * f:=by omega
  cases hb : (ng1 != ng2) with
  | false =>
   obtain rfl : ng1 = ng2:=by simpa using hb
   refine (mlay w b ac n x y C hC lo hi hM ng1 a bb x1 x2 f s (by omega) hp (by omega) (by omega) (by omega) e1 e2 _ _ _ _ _ (moved_bound a (by omega) s (by omega) _ _ _ rfl rfl rfl) (parts_bound bb _ _ (by omega) rfl rfl) rfl rfl rfl rfl rfl KP1 KP2).mono ?_
   rintro e w' ⟨rfl,C',hM',hL,hg⟩
   refine ⟨rfl,C',_,_,hM',inv_step hI (by omega) hL,?_,fun k => by have:=hL.near k; omega,hg⟩
   have hv:=hL.val
   rw [moved_sum a s (by omega) _ _ _ rfl rfl rfl,parts_sum bb _ _ rfl rfl] at hv
   rw [hv,ht,Int.pow_add]
   simp only [sg,Bool.false_eq_true,if_false]
   congr 1
   simp only [Int.mul_assoc,Int.mul_comm,Int.mul_left_comm]
  | true =>
   obtain rfl : ng2 = !ng1:=by cases ng1 <;> cases ng2 <;> simp_all
   refine (mlayn w b ac n x y C hC lo hi hM ng1 a bb x1 x2 f s (by omega) hp (by omega) (by omega) (by omega) e1 e2 _ _ _ _ _ (moved_bound a (by omega) s (by omega) _ _ _ rfl rfl rfl) (parts_bound (-bb) _ _ (by omega) rfl rfl) rfl rfl rfl rfl rfl KP1 KP2).mono ?_
   rintro e w' ⟨rfl,C',hM',hL,hg⟩
   refine ⟨rfl,C',_,_,hM',inv_step hI (by omega) hL,?_,fun k => by have:=hL.near k; omega,hg⟩
   have hv:=hL.val
   rw [moved_sum a s (by omega) _ _ _ rfl rfl rfl,parts_sum (-bb) _ _ rfl rfl] at hv
   rw [hv,ht,Int.pow_add]
   simp only [sg,if_true]
   congr 1
   simp only [Int.mul_assoc,Int.mul_comm,Int.mul_left_comm,Int.mul_neg,Int.neg_mul]
theorem special_any (w : World) (b q : Nat) (ac : List Value) (n x : Int) (C : List Int) (lo hi : Int) (hM : MkAt w b ac n C lo hi) (hq : w.cell? ⟨q,0,none⟩ = some (.pointer (some ⟨b,0,none⟩))) (v : Int) (KC : Hid (∀ u,Calls Tryz.prog 26 #[.int .i64 x,.int .i64 n] u fun e w' => e = .returned (.int .i64 v) ∧ Kept u w')) :
  Calls Tryz.prog 114 #[.int .i64 x,.pointer (some ⟨q,0,none⟩)] w fun e w' => e = .returned (.bool (decide (3 ≤ v))) ∧ Kept w w':=by
 have hw0:=hM.width
 go_enter Tryz.func114,Tryz.ntmps114
 go_wp2_with fail
 refine (KC.out _).mono ?_
 rintro e w1 ⟨rfl,k1⟩
 go_wp2_with fail
 go_ret
 exact ⟨rfl,k1⟩
theorem add_fin (w : World) (b : Nat) (ac : List Value) (n x y : Int) (C : List Int) (lo hi : Int) (hM : MkAt w b ac n C lo hi) (v1 v2 : Int) (hx : v1 < 3) (hy : v2 < 3) (Post : World → Prop)
  (KC1 : Hid (∀ u,Calls Tryz.prog 26 #[.int .i64 x,.int .i64 n] u fun e w' => e = .returned (.int .i64 v1) ∧ Kept u w'))
  (KC2 : Hid (∀ u,Calls Tryz.prog 26 #[.int .i64 y,.int .i64 n] u fun e w' => e = .returned (.int .i64 v2) ∧ Kept u w'))
  (KL : Hid (∀ u,Kept w u → Calls Tryz.prog 115 #[.pointer (some ⟨b,0,none⟩),.int .i64 x,.int .i64 y] u fun e w' => e = .returned (.tuple #[]) ∧ Post w')) :
  Calls Tryz.prog 69 #[.pointer (some ⟨b,0,none⟩),.int .i64 x,.int .i64 y] w fun e w' => e = .returned (.tuple #[]) ∧ Post w':=by
 have d1 : decide (3 ≤ v1) = false:=decide_eq_false (by omega)
 have d2 : decide (3 ≤ v2) = false:=decide_eq_false (by omega)
 obtain ⟨X,hX⟩ : ∃ X,X = w.alloc (.cells #[.pointer (some ⟨b,0,none⟩)] 145):=⟨_,rfl⟩
 have k0 : Kept w X:=by rw [hX]; exact (Kept.refl w).alloc _ _
 have HQ : Hid (∀ u,Kept X u → u.cell? ⟨w.heap.size,0,none⟩ = some (.pointer (some ⟨b,0,none⟩))):=fun u k => by
  have hb : w.heap.size < X.heap.size:=by rw [hX]; simp
  refine (k.below.cell (p:=⟨w.heap.size,0,none⟩) hb).trans ?_
  rw [hX]
  simp [go_sem]
 have HS1 : Hid (∀ u,Kept X u → Calls Tryz.prog 114 #[.int .i64 x,.pointer (some ⟨w.heap.size,0,none⟩)] u fun e w' => e = .returned (.bool false) ∧ Kept u w'):=fun u k => by
  have:=special_any u b w.heap.size ac n x C lo hi (hM.kept (k0.trans k)) (HQ.out u k) v1 KC1
  rw [d1] at this
  exact this
 have HS2 : Hid (∀ u,Kept X u → Calls Tryz.prog 114 #[.int .i64 y,.pointer (some ⟨w.heap.size,0,none⟩)] u fun e w' => e = .returned (.bool false) ∧ Kept u w'):=fun u k => by
  have:=special_any u b w.heap.size ac n y C lo hi (hM.kept (k0.trans k)) (HQ.out u k) v2 KC2
  rw [d2] at this
  exact this
 clear hM KC1 KC2 d1 d2 hx hy
 go_enter Tryz.func69,Tryz.ntmps69
 go_upto_region 1 with fail
 rw [← hX]
 clear hX
 go_wp2_with fail
 refine (HS1.out _ (Kept.refl _)).mono ?_
 rintro e w1 ⟨rfl,k1⟩
 go_wp2_with fail
 refine (HS2.out _ k1).mono ?_
 rintro e w2 ⟨rfl,k2⟩
 have hq:=HQ.out _ (k1.trans k2)
 go_wp2_with fail
 refine (KL.out _ (k0.trans (k1.trans k2))).mono ?_
 rintro e w3 ⟨rfl,h3⟩
 go_wp2_with fail
 exact bodyPost_ret (v:=.tuple #[]) (by simp [results,Tryz.results69,go_sem]) rfl ⟨rfl,h3⟩
end Go.Proofs.YtoflafgbbjinpaaGreatDoor
