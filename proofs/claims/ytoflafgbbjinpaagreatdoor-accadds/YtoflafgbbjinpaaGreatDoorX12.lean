/- acc's lay: a product is added to the columns. -/
import Derived.Test.YtoflafgbbjinpaaGreatDoorX11
namespace Go.Proofs.YtoflafgbbjinpaaGreatDoor
open Go.ChangeShapes Go.WideShapes Go.ChangeAt Go.RowKit
set_option linter.unusedVariables false
set_option linter.unusedSimpArgs false
set_option maxHeartbeats 16000000
set_option maxRecDepth 100000
theorem MkAt.fz {w : World} {b : Nat} {ac : List Value} {n : Int} {C : List Int} {lo hi : Int} (h : MkAt w b ac n C lo hi) (i : Nat) : w.frozen? ⟨b,i,none⟩ = false:=by
 simp [World.frozen?,h.blk]
theorem MkAt.lt {w : World} {b : Nat} {ac : List Value} {n : Int} {C : List Int} {lo hi : Int} (h : MkAt w b ac n C lo hi) : b < w.heap.size:=by
 apply Decidable.byContradiction
 intro g
 have:=h.blk
 rw [Array.getElem?_eq_none (by omega)] at this
 cases this
theorem Grw.drew {g : Nat} {a c : World} (h : Grw g a c) : Grw g a c.drew:=by
 have k : Kept c c.drew:=(Kept.refl c).drew
 exact ⟨⟨k.below.os.trans h.grown.os,k.below.tape.trans h.grown.tape,k.below.output.trans h.grown.output,Nat.le_trans h.grown.size k.below.size,fun i hi hn => (k.below.block i (Nat.lt_of_lt_of_le hi h.grown.size)).trans (h.grown.block i hi hn)⟩,fun x => (k.frozen x).trans (h.frozen x)⟩
def ws (M0 M1 M2 : Int) : Nat → Int
 | 0 => 0
 | 1 => M0
 | 2 => M0 + M1 * 1073741824
 | _ => M0 + M1 * 1073741824 + M2 * 1152921504606846976
def mv (M0 M1 M2 : Int) : Nat → Int
 | 0 => M0
 | 1 => M1
 | _ => M2
def dsm (d0 d1 : Int) : Nat → Int
 | 0 => 0
 | 1 => d0
 | _ => d0 + d1 * 1073741824
def dv (d0 d1 : Int) : Nat → Int
 | 0 => d0
 | _ => d1
/- the columns behind so many steps -/
structure Ly (C C' : List Int) (f st : Nat) (V : Int) : Prop where
 len : C'.length = 141
 val : cv C' = cv C + V * 2 ^ (30 * f)
 near : ∀ k,-((st : Int) * 2147483648) ≤ C'.getD k 0 - C.getD k 0 ∧ C'.getD k 0 - C.getD k 0 ≤ (st : Int) * 2147483648
 out : ∀ k,(k < f ∨ f + 5 ≤ k) → C'.getD k 0 = C.getD k 0
theorem index2_0 (a b : Value) (w : World) : (Instr.index 179 (.agg #[a,b]) (.int .i64 0)).run Tryz.prog w = .ok a w:=by
 kernel_rfl
theorem index2_1 (a b : Value) (w : World) : (Instr.index 179 (.agg #[a,b]) (.int .i64 1)).run Tryz.prog w = .ok b w:=by
 kernel_rfl
theorem mul_bound (m d : Int) (h1 : 0 ≤ m ∧ m < 1073741824) (h2 : -1073741824 ≤ d ∧ d < 1073741824) : -1152921504606846976 ≤ m * d ∧ m * d < 1152921504606846976:=by
 have a1 : m * d ≤ m * 1073741823:=Int.mul_le_mul_of_nonneg_left (by omega) h1.1
 have a2 : m * (-1073741824) ≤ m * d:=Int.mul_le_mul_of_nonneg_left h2.1 h1.1
 omega
theorem blk_lt {w : World} {p : Nat} {o : Obj} (h : w.heap[p]? = some o) : p < w.heap.size:=by
 apply Decidable.byContradiction
 intro g
 rw [Array.getElem?_eq_none (by omega)] at h
 cases h
theorem Ly.step {C C' : List Int} {f st : Nat} {V : Int} (h : Ly C C' f st V) (r : Nat) (hr : r + 1 < 5) (hf : f + 5 ≤ 141) (P : Int) (hP : -1152921504606846976 ≤ P ∧ P < 1152921504606846976) : Ly C ((C'.set (f + r) (C'.getD (f + r) 0 + P % 1073741824)).set (f + r + 1) ((C'.set (f + r) (C'.getD (f + r) 0 + P % 1073741824)).getD (f + r + 1) 0 + P / 1073741824)) f (st + 1) (V + P * 2 ^ (30 * r)):=by
 have hl:=h.len
 refine ⟨by simp [hl],?_,fun k => ?_,fun k hk => ?_⟩
 ·rw [cv_set _ _ (by simp; omega),cv_set _ _ (by omega),h.val,Int.add_mul,Int.mul_assoc P,← Int.pow_add,show 30 * r + 30 * f = 30 * (f + r) by omega,pow30i (f + r)]
  have e : P % 1073741824 + 1073741824 * (P / 1073741824) = P:=by omega
  generalize (2 : Int) ^ (30 * (f + r)) = Z at *
  have : P * Z = (P % 1073741824) * Z + P / 1073741824 * (1073741824 * Z):=by
   rw [← Int.mul_assoc,← Int.add_mul,Int.mul_comm (P / 1073741824),e]
  omega
 ·have h1:=h.near k
  rw [getD_set _ _ _ _ (by simp; omega),getD_set _ _ _ _ (by omega),getD_set _ _ _ _ (by omega)]
  have e1:=h.near (f + r)
  have e2:=h.near (f + r + 1)
  by_cases k1 : f + r + 1 = k
  ·rw [if_pos k1,if_neg (by omega)]
   subst k1
   push_cast
   omega
  ·rw [if_neg k1]
   by_cases k2 : f + r = k
   ·rw [if_pos k2]
    subst k2
    push_cast
    omega
   ·rw [if_neg k2]
    push_cast
    omega
 ·rw [getD_set _ _ _ _ (by simp; omega),if_neg (by omega),getD_set _ _ _ _ (by omega),if_neg (by omega)]
  exact h.out k hk
theorem mlay (w : World) (b : Nat) (ac : List Value) (n x y : Int) (C : List Int) (hC : ∀ k,-1152921504606846976 ≤ C.getD k 0 ∧ C.getD k 0 ≤ 1152921504606846976) (lo hi : Int) (hM : MkAt w b ac n C lo hi) (ng : Bool) (a bb e1 e2 : Int) (f s : Nat) (hs : s < 30) (hp : e1 + e2 + 2148 = 30 * (f : Int) + s) (hf : f + 5 ≤ 141) (ha : 0 < a ∧ a < 9007199254740992) (hb : 0 < bb ∧ bb < 9007199254740992) (he1 : -1074 ≤ e1 ∧ e1 ≤ 971) (he2 : -1074 ≤ e2 ∧ e2 ≤ 971) (M0 M1 M2 d0 d1 : Int)
  (hMb : ∀ i,0 ≤ mv M0 M1 M2 i ∧ mv M0 M1 M2 i < 1073741824) (hdb : ∀ j,-1073741824 ≤ dv d0 d1 j ∧ dv d0 d1 j < 1073741824) (hM0 : bits .and .i64 (wrap64 (a * 2 ^ s)) 1073741823 = M0) (hM1 : bits .and .i64 (a / 2 ^ (30 - s)) 1073741823 = M1) (hM2 : a / 2 ^ (60 - s) = M2) (hd0 : bits .and .i64 bb 1073741823 = d0) (hd1 : bb / 1073741824 = d1)
  (KP1 : Hid (∀ u,Calls Tryz.prog 59 #[.int .i64 x,.int .i64 n] u fun e w' => e = .returned (.tuple #[.bool ng,.int .i64 a,.int .i64 e1,.bool true]) ∧ Kept u w'))
  (KP2 : Hid (∀ u,Calls Tryz.prog 59 #[.int .i64 y,.int .i64 n] u fun e w' => e = .returned (.tuple #[.bool ng,.int .i64 bb,.int .i64 e2,.bool true]) ∧ Kept u w')) :
  Calls Tryz.prog 115 #[.pointer (some ⟨b,0,none⟩),.int .i64 x,.int .i64 y] w fun e w' => e = .returned (.tuple #[]) ∧ ∃ C',MkAt w' b ac n C' (min lo f) (max hi (f + 5)) ∧ Ly C C' f 6 (ws M0 M1 M2 3 * dsm d0 d1 2) ∧ Grw b w w':=by
 have HM : Hid (∀ u,Kept w u → MkAt u b ac n C lo hi):=fun u k => hM.kept k
 have HC : Hid (∀ k,-1152921504606846976 ≤ C.getD k 0 ∧ C.getD k 0 ≤ 1152921504606846976):=hC
 have hbw:=hM.lt
 have hlen:=hM.c141
 clear hC
 have y1 : (a == 0) = false:=by rw [beq_eq_false_iff_ne]; omega
 have y2 : (bb == 0) = false:=by rw [beq_eq_false_iff_ne]; omega
 have hw0:=hM.width
 go_enter Tryz.func115,Tryz.ntmps115
 go_wp2_with fail
 refine (KP1.out _).mono ?_
 rintro e w1 ⟨rfl,k1⟩
 clear hw0
 have hw0:=(HM.out _ k1).width
 go_wp2_with fail
 refine (KP2.out _).mono ?_
 rintro e w2 ⟨rfl,k2⟩
 clear hw0
 have k12:=k1.trans k2
 clear k1 k2 KP1 KP2
 have q1 : IntKind.i64.wrap (e1 + e2) = e1 + e2:=by rw [wrap_i64]; omega
 have q2 : IntKind.i64.wrap (e1 + e2 - -2148) = 30 * (f : Int) + s:=by rw [wrap_i64]; omega
 have q3 : (30 * (f : Int) + s).tdiv 30 = f:=by
  rw [Int.tdiv_eq_ediv_of_nonneg (by omega)]; omega
 have q4 : (30 * (f : Int) + s).tmod 30 = s:=by
  rw [Int.tmod_eq_emod_of_nonneg (by omega)]; omega
 have q5 : IntKind.i64.wrap (f : Int) = f:=by rw [wrap_i64]; omega
 have q6 : IntKind.i64.wrap ((f : Int) + 5) = (f : Int) + 5:=by rw [wrap_i64]; omega
 have q7 : IntKind.i64.wrap (30 - (s : Int)) = 30 - s:=by rw [wrap_i64]; omega
 have q8 : IntKind.i64.wrap (60 - (s : Int)) = 60 - s:=by rw [wrap_i64]; omega
 go_upto_region 7 with fail
 have m7:=HM.out _ k12
 have l0:=m7.low
 have l1:=m7.high
 have fz:=m7.fz
 go_region
 have m8:=((m7.setLow (min lo f)).setHigh (max hi (f + 5))).kept (Kept.refl _).drew
 have g8 : Grw b w (((w2.setCell ⟨b,148,none⟩ (.int .i64 (min lo f))).setCell ⟨b,149,none⟩ (.int .i64 (max hi (f + 5)))).drew):=(((k12.toGrw b).setCell 148 _).setCell 149 _).drew
 clear l0 l1 fz m7 q1 q2 q3 q4 q5 q6
 go_upto_region 8 with fail
 obtain ⟨X8,hX8⟩ : ∃ X,X = ((w2.setCell ⟨b,148,none⟩ (.int .i64 (min lo f))).setCell ⟨b,149,none⟩ (.int .i64 (max hi (f + 5)))).drew:=⟨_,rfl⟩
 rw [← hX8] at m8 g8 ⊢
 clear hX8
 obtain ⟨LO,hLO⟩ : ∃ LO,LO = min lo (f : Int):=⟨_,rfl⟩
 obtain ⟨HI,hHI⟩ : ∃ HI,HI = max hi ((f : Int) + 5):=⟨_,rfl⟩
 rw [← hLO,← hHI] at m8 ⊢
 go_region
 (try rw [hM0]); (try rw [hM1]); (try rw [hM2])
 have hb8 : b < X8.heap.size:=m8.lt
 obtain ⟨p,hp8⟩ : ∃ p,p = X8.heap.size:=⟨_,rfl⟩
 have b9 : ((X8.alloc (.cells #[.int .i64 M0,.int .i64 M1,.int .i64 M2] 178)).drew).heap[p]? = some (.cells #[.int .i64 M0,.int .i64 M1,.int .i64 M2] 178 (0,0)):=by
  have k : Kept (X8.alloc (.cells #[.int .i64 M0,.int .i64 M1,.int .i64 M2] 178)) (X8.alloc (.cells #[.int .i64 M0,.int .i64 M1,.int .i64 M2] 178)).drew:=(Kept.refl _).drew
  rw [k.below.block p (by rw [hp8]; simp),hp8]
  exact heap_alloc_new X8 _
 have m9:=m8.kept (((Kept.refl X8).alloc #[.int .i64 M0,.int .i64 M1,.int .i64 M2] 178).drew)
 have g9 : Grw b w ((X8.alloc (.cells #[.int .i64 M0,.int .i64 M1,.int .i64 M2] 178)).drew):=g8.trans ((((Kept.refl X8).alloc #[.int .i64 M0,.int .i64 M1,.int .i64 M2] 178).drew).toGrw b)
 rw [← hp8]
 obtain ⟨X9,hX9⟩ : ∃ X,X = (X8.alloc (.cells #[.int .i64 M0,.int .i64 M1,.int .i64 M2] 178)).drew:=⟨_,rfl⟩
 rw [← hX9] at b9 m9 g9 ⊢
 have hpb : p ≠ b:=by omega
 clear hX9 hp8 hb8 g8 m8 q7 q8
 have H9 : Hid (MkAt X9 b ac n C LO HI ∧ X9.heap[p]? = some (.cells #[.int .i64 M0,.int .i64 M1,.int .i64 M2] 178 (0,0)) ∧ Grw b w X9):=⟨m9,b9,g9⟩
 clear m9 b9 g9 HM
 go_wp2_with fail
 go_loopw [96] (fun iv wr => ∃ (i : Nat) (Ci : List Int),i ≤ 3 ∧ iv = .int .i64 i ∧ MkAt wr b ac n Ci LO HI ∧ wr.heap[p]? = some (.cells #[.int .i64 M0,.int .i64 M1,.int .i64 M2] 178 (0,0)) ∧ Grw b w wr ∧ Ly C Ci f (2 * i) (ws M0 M1 M2 i * dsm d0 d1 2)) (fun iv _ => 3 - (intOf iv).toNat)
 case atStart => exact ⟨0,C,by omega,rfl,H9.out.1,H9.out.2.1,H9.out.2.2,⟨hlen,by simp [ws],fun k => by simp,fun k _ => rfl⟩⟩
 case round =>
  clear H9
  obtain ⟨i,Ci,hi3,rfl,hm,hbk,hg,hL⟩:=hrel
  have HR : Hid (MkAt wr b ac n Ci LO HI ∧ wr.heap[p]? = some (.cells #[.int .i64 M0,.int .i64 M1,.int .i64 M2] 178 (0,0)) ∧ Grw b w wr ∧ Ly C Ci f (2 * i) (ws M0 M1 M2 i * dsm d0 d1 2)):=⟨hm,hbk,hg,hL⟩
  clear hm hbk hg hL
  by_cases hi : i < 3
  ·have g1 : (i : Int) < 3:=by omega
   go_upto_region 13 with fail
   obtain ⟨D,hD⟩ : ∃ D,D = ws M0 M1 M2 i * dsm d0 d1 2:=⟨_,rfl⟩
   go_loopw [104] (fun jv wr => ∃ (j : Nat) (Cj : List Int),j ≤ 2 ∧ jv = .int .i64 j ∧ MkAt wr b ac n Cj LO HI ∧ wr.heap[p]? = some (.cells #[.int .i64 M0,.int .i64 M1,.int .i64 M2] 178 (0,0)) ∧ Grw b w wr ∧ Ly C Cj f (2 * i + j) (ws M0 M1 M2 i * dsm d0 d1 2 + mv M0 M1 M2 i * 2 ^ (30 * i) * dsm d0 d1 j)) (fun jv _ => 2 - (intOf jv).toNat)
   case atStart => exact ⟨0,Ci,by omega,rfl,HR.out.1,HR.out.2.1,HR.out.2.2.1,by simpa [dsm] using HR.out.2.2.2⟩
   case round =>
    clear HR
    obtain ⟨j,Cj,hj2,rfl,hm,hbk,hg,hL⟩:=hrel
    by_cases hj : j < 2
    ·have g2 : (j : Int) < 2:=by omega
     have z1w : IntKind.i64.wrap ((j : Int) + 1) = (j : Int) + 1:=by rw [wrap_i64]; omega
     have HR2 : Hid (Grw b w wr ∧ Ly C Cj f (2 * i + j) (ws M0 M1 M2 i * dsm d0 d1 2 + mv M0 M1 M2 i * 2 ^ (30 * i) * dsm d0 d1 j) ∧ wr.heap[p]? = some (.cells #[.int .i64 M0,.int .i64 M1,.int .i64 M2] 178 (0,0))):=⟨hg,hL,hbk⟩
     have hcl : wr.cell? ⟨p,i,none⟩ = some (.int .i64 (mv M0 M1 M2 i)):=by
      have h3 : i = 0 ∨ i = 1 ∨ i = 2:=by omega
      rcases h3 with rfl | rfl | rfl <;> simp [World.cell?,hbk,mv]
     have hmb:=hMb i
     have hdj:=hdb j
     obtain ⟨Mi,hMi⟩ : ∃ Mi,Mi = mv M0 M1 M2 i:=⟨_,rfl⟩
     obtain ⟨P,hP⟩ : ∃ P,P = Mi * dv d0 d1 j:=⟨_,rfl⟩
     obtain ⟨Q,hQ⟩ : ∃ Q,Q = P % 1073741824:=⟨_,rfl⟩
     rw [← hMi] at hcl hmb
     have HMi : Hid (Mi = mv M0 M1 M2 i):=hMi
     have HP : Hid (P = Mi * dv d0 d1 j):=hP
     have HQ : Hid (Q = P % 1073741824):=hQ
     have hPb : -1152921504606846976 ≤ P ∧ P < 1152921504606846976:=by
      rw [hP]
      exact mul_bound Mi _ hmb hdj
     clear hMi hP hQ
     have w1 : IntKind.i64.wrap ((f : Int) + i) = (f : Int) + i:=by rw [wrap_i64]; omega
     clear hbk hg hL
     have hj01 : j = 0 ∨ j = 1:=by omega
     rcases hj01 with rfl | rfl
     ·have hwP : IntKind.i64.wrap (Mi * d0) = P:=by
       have e : P = Mi * d0:=HP.out
       rw [← e,wrap_i64]
       omega
      have hix:=index2_0 (.int .i64 d0) (.int .i64 d1)
      obtain ⟨c0,hc0⟩ : ∃ c,c = Cj.getD (f + i) 0:=⟨_,rfl⟩
      obtain ⟨c1,hc1⟩ : ∃ c,c = Cj.getD (f + i + 1) 0:=⟨_,rfl⟩
      have c16:=hm.col (f + i) (by omega)
      rw [← hc0] at c16
      have HC0 : Hid (c0 = Cj.getD (f + i) 0 ∧ c1 = Cj.getD (f + i + 1) 0):=⟨hc0,hc1⟩
      have fz:=hm.fz
      have w3 : IntKind.i64.wrap ((f : Int) + i) = (f : Int) + i:=by rw [wrap_i64]; omega
      have w4 : IntKind.i64.wrap ((f : Int) + i + 1) = (f : Int) + i + 1:=by rw [wrap_i64]; omega
      have mk : bits .and .i64 P 1073741823 = Q:=by rw [mask30]; exact HQ.out.symm
      have hn1:=HC.out (f + i)
      have hn2:=HR2.out.2.1.near (f + i)
      have hn3:=HC.out (f + i + 1)
      have hn4:=HR2.out.2.1.near (f + i + 1)
      have hqq:=HQ.out
      obtain ⟨v0,hv0⟩ : ∃ v,v = c0 + Q:=⟨_,rfl⟩
      obtain ⟨v1,hv1⟩ : ∃ v,v = c1 + P / 1073741824:=⟨_,rfl⟩
      have hw5 : IntKind.i64.wrap (c0 + Q) = v0:=by rw [hv0,wrap_i64]; omega
      have hw6 : IntKind.i64.wrap (c1 + P / 1073741824) = v1:=by rw [hv1,wrap_i64]; omega
      have HV : Hid (v0 = c0 + Q ∧ v1 = c1 + P / 1073741824):=⟨hv0,hv1⟩
      have m16:=(hm.setCol (f + i) (by omega) v0).kept (Kept.refl _).drew
      have hlt : ((f : Int) + i) < 141:=by omega
      have hlt2 : ((f : Int) + i + 1) < 141:=by omega
      clear hc0 hc1 hv0 hv1 hn1 hn2 hn3 hn4 hqq
      go_upto_region 16 with fail
      go_region
      obtain ⟨X16,hX16⟩ : ∃ X,X = (wr.setCell ⟨b,7 + (f + i),none⟩ (.int .i64 v0)).drew:=⟨_,rfl⟩
      have g16 : Grw b wr X16:=by rw [hX16]; exact ((Grw.refl b wr).setCell _ _).drew
      rw [← hX16] at m16
      have c17:=m16.col (f + i + 1) (by omega)
      rw [getD_set _ _ _ _ (by have:=hm.c141; omega),if_neg (by omega),← HC0.out.2] at c17
      have fz17:=m16.fz
      clear c16 fz
      go_upto_region 17 with fail
      rw [← hX16]
      clear hX16
      go_region
      have m17:=(m16.setCol (f + i + 1) (by omega) v1).kept (Kept.refl _).drew
      have g17 : Grw b wr ((X16.setCell ⟨b,7 + (f + i + 1),none⟩ (.int .i64 v1)).drew):=(g16.setCell _ _).drew
      have HF : Hid (MkAt ((X16.setCell ⟨b,7 + (f + i + 1),none⟩ (.int .i64 v1)).drew) b ac n ((Cj.set (f + i) v0).set (f + i + 1) v1) LO HI ∧ Grw b wr ((X16.setCell ⟨b,7 + (f + i + 1),none⟩ (.int .i64 v1)).drew)):=⟨m17,g17⟩
      clear m17 g17 m16 g16 c17 fz17
      go_wp2_with fail
      go_roundw
      case rel =>
       have hst:=HR2.out.2.1.step (i) (by omega) hf P hPb
       have e1:=HC0.out
       have e2:=HV.out
       have e3:=HQ.out
       have hl:=HR2.out.2.1.len
       rw [show f + (i) = f + i by omega,getD_set _ _ _ _ (by omega),if_neg (by omega),← e1.1,← e1.2,← e3,← e2.1,← e2.2] at hst
       refine ⟨0 + 1,_,by omega,by go_num,HF.out.1,(HF.out.2.grown.block p (blk_lt HR2.out.2.2) (by simpa using hpb)).trans HR2.out.2.2,HR2.out.1.trans HF.out.2,?_⟩
       rw [HP.out,HMi.out] at hst
       have e : ws M0 M1 M2 i * dsm d0 d1 2 + mv M0 M1 M2 i * 2 ^ (30 * i) * dsm d0 d1 0 + mv M0 M1 M2 i * dv d0 d1 0 * 2 ^ (30 * i) = ws M0 M1 M2 i * dsm d0 d1 2 + mv M0 M1 M2 i * 2 ^ (30 * i) * dsm d0 d1 1:=by
        show _ + mv M0 M1 M2 i * 2 ^ (30 * i) * 0 + mv M0 M1 M2 i * d0 * 2 ^ (30 * i) = _ + mv M0 M1 M2 i * 2 ^ (30 * i) * d0
        rw [Int.mul_zero,Int.add_zero,Int.mul_right_comm]
       rw [e] at hst
       exact hst
      case measure => simp [intOf]
     ·have hwP : IntKind.i64.wrap (Mi * d1) = P:=by
       have e : P = Mi * d1:=HP.out
       rw [← e,wrap_i64]
       omega
      have hix:=index2_1 (.int .i64 d0) (.int .i64 d1)
      obtain ⟨c0,hc0⟩ : ∃ c,c = Cj.getD (f + i + 1) 0:=⟨_,rfl⟩
      obtain ⟨c1,hc1⟩ : ∃ c,c = Cj.getD (f + i + 1 + 1) 0:=⟨_,rfl⟩
      have c16:=hm.col (f + i + 1) (by omega)
      rw [← hc0] at c16
      have HC0 : Hid (c0 = Cj.getD (f + i + 1) 0 ∧ c1 = Cj.getD (f + i + 1 + 1) 0):=⟨hc0,hc1⟩
      have fz:=hm.fz
      have w3 : IntKind.i64.wrap ((f : Int) + i + 1) = (f : Int) + i + 1:=by rw [wrap_i64]; omega
      have w4 : IntKind.i64.wrap ((f : Int) + i + 1 + 1) = (f : Int) + i + 1 + 1:=by rw [wrap_i64]; omega
      have mk : bits .and .i64 P 1073741823 = Q:=by rw [mask30]; exact HQ.out.symm
      have hn1:=HC.out (f + i + 1)
      have hn2:=HR2.out.2.1.near (f + i + 1)
      have hn3:=HC.out (f + i + 1 + 1)
      have hn4:=HR2.out.2.1.near (f + i + 1 + 1)
      have hqq:=HQ.out
      obtain ⟨v0,hv0⟩ : ∃ v,v = c0 + Q:=⟨_,rfl⟩
      obtain ⟨v1,hv1⟩ : ∃ v,v = c1 + P / 1073741824:=⟨_,rfl⟩
      have hw5 : IntKind.i64.wrap (c0 + Q) = v0:=by rw [hv0,wrap_i64]; omega
      have hw6 : IntKind.i64.wrap (c1 + P / 1073741824) = v1:=by rw [hv1,wrap_i64]; omega
      have HV : Hid (v0 = c0 + Q ∧ v1 = c1 + P / 1073741824):=⟨hv0,hv1⟩
      have m16:=(hm.setCol (f + i + 1) (by omega) v0).kept (Kept.refl _).drew
      have hlt : ((f : Int) + i + 1) < 141:=by omega
      have hlt2 : ((f : Int) + i + 1 + 1) < 141:=by omega
      clear hc0 hc1 hv0 hv1 hn1 hn2 hn3 hn4 hqq
      go_upto_region 16 with fail
      go_region
      obtain ⟨X16,hX16⟩ : ∃ X,X = (wr.setCell ⟨b,7 + (f + i + 1),none⟩ (.int .i64 v0)).drew:=⟨_,rfl⟩
      have g16 : Grw b wr X16:=by rw [hX16]; exact ((Grw.refl b wr).setCell _ _).drew
      rw [← hX16] at m16
      have c17:=m16.col (f + i + 1 + 1) (by omega)
      rw [getD_set _ _ _ _ (by have:=hm.c141; omega),if_neg (by omega),← HC0.out.2] at c17
      have fz17:=m16.fz
      clear c16 fz
      go_upto_region 17 with fail
      rw [← hX16]
      clear hX16
      go_region
      have m17:=(m16.setCol (f + i + 1 + 1) (by omega) v1).kept (Kept.refl _).drew
      have g17 : Grw b wr ((X16.setCell ⟨b,7 + (f + i + 1 + 1),none⟩ (.int .i64 v1)).drew):=(g16.setCell _ _).drew
      have HF : Hid (MkAt ((X16.setCell ⟨b,7 + (f + i + 1 + 1),none⟩ (.int .i64 v1)).drew) b ac n ((Cj.set (f + i + 1) v0).set (f + i + 1 + 1) v1) LO HI ∧ Grw b wr ((X16.setCell ⟨b,7 + (f + i + 1 + 1),none⟩ (.int .i64 v1)).drew)):=⟨m17,g17⟩
      clear m17 g17 m16 g16 c17 fz17
      go_wp2_with fail
      go_roundw
      case rel =>
       have hst:=HR2.out.2.1.step (i + 1) (by omega) hf P hPb
       have e1:=HC0.out
       have e2:=HV.out
       have e3:=HQ.out
       have hl:=HR2.out.2.1.len
       rw [show f + (i + 1) = f + i + 1 by omega,getD_set _ _ _ _ (by omega),if_neg (by omega),← e1.1,← e1.2,← e3,← e2.1,← e2.2] at hst
       refine ⟨1 + 1,_,by omega,by go_num,HF.out.1,(HF.out.2.grown.block p (blk_lt HR2.out.2.2) (by simpa using hpb)).trans HR2.out.2.2,HR2.out.1.trans HF.out.2,?_⟩
       rw [HP.out,HMi.out] at hst
       have e : ws M0 M1 M2 i * dsm d0 d1 2 + mv M0 M1 M2 i * 2 ^ (30 * i) * dsm d0 d1 1 + mv M0 M1 M2 i * dv d0 d1 1 * 2 ^ (30 * (i + 1)) = ws M0 M1 M2 i * dsm d0 d1 2 + mv M0 M1 M2 i * 2 ^ (30 * i) * dsm d0 d1 2:=by
        show _ + mv M0 M1 M2 i * 2 ^ (30 * i) * d0 + mv M0 M1 M2 i * d1 * 2 ^ (30 * (i + 1)) = _ + mv M0 M1 M2 i * 2 ^ (30 * i) * (d0 + d1 * 1073741824)
        rw [pow30i,Int.mul_add,Int.add_assoc]
        congr 2
        simp only [Int.mul_assoc,Int.mul_comm,Int.mul_left_comm]
       rw [e] at hst
       exact hst
      case measure => simp [intOf]
    ·have g2 : ¬ (j : Int) < 2:=by omega
     obtain rfl : j = 2:=by omega
     have z2w : IntKind.i64.wrap ((i : Int) + 1) = (i : Int) + 1:=by rw [wrap_i64]; omega
     have HF : Hid (MkAt wr b ac n Cj LO HI ∧ wr.heap[p]? = some (.cells #[.int .i64 M0,.int .i64 M1,.int .i64 M2] 178 (0,0)) ∧ Grw b w wr ∧ Ly C Cj f (2 * i + 2) (ws M0 M1 M2 i * dsm d0 d1 2 + mv M0 M1 M2 i * 2 ^ (30 * i) * dsm d0 d1 2)):=⟨hm,hbk,hg,hL⟩
     clear hm hbk hg hL
     go_wp2_with fail
     go_roundw
     case rel =>
      refine ⟨i + 1,Cj,by omega,by go_num,HF.out.1,HF.out.2.1,HF.out.2.2.1,?_⟩
      have h:=HF.out.2.2.2
      rw [← Int.add_mul] at h
      have e : ws M0 M1 M2 i + mv M0 M1 M2 i * 2 ^ (30 * i) = ws M0 M1 M2 (i + 1):=by
       have h3 : i = 0 ∨ i = 1 ∨ i = 2:=by omega
       rcases h3 with rfl | rfl | rfl <;> simp [ws,mv]
      rw [e] at h
      exact h
     case measure => simp [intOf]; omega
  ·have g1 : ¬ (i : Int) < 3:=by omega
   obtain rfl : i = 3:=by omega
   go_wp2_with fail
   go_end0
   exact ⟨rfl,Ci,by rw [← hLO,← hHI]; exact HR.out.1,HR.out.2.2.2,HR.out.2.2.1⟩
end Go.Proofs.YtoflafgbbjinpaaGreatDoor
