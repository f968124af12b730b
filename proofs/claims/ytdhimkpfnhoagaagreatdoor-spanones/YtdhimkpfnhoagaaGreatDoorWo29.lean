/- Package span: Meet,Join,Holds. Package span: Join,Holds. acc's begin. A sum that is being made lies in one block; its cells. acc's lay: a product is added to the columns. acc's lay where the signs differ: a product is added to the columns. acc's lay of any two finite floats. acc's lay of any two finite floats: what it adds to the columns. acc's add,where both floats are finite. exact's Columns: the closure. exact's Columns. -/
import Derived.Test.YtdhimkpfnhoagaaGreatDoorWo28
import Derived.Test.YtdhimkpfnhoagaaGreatDoorWo14
import Derived.Deep.MidRow
import Derived.Test.YtdhimkpfnhoagaaGreatDoorWo21
import Derived.Test.YtdhimkpfnhoagaaGreatDoorWo04
import Derived.Test.YtdhimkpfnhoagaaGreatDoorWo08
namespace Go.Proofs.YtdhimkpfnhoagaaGreatDoor
open Go.ChangeShapes Go.WideShapes Go.ChangeAt Go.RowKit Ieee
set_option linter.unusedVariables false
set_option linter.unusedSimpArgs false
set_option maxHeartbeats 16000000
set_option maxRecDepth 100000
/-- the first error of two intervals -/
def btE (a1 b1 a2 b2 n : Int) : Int:=if opE a1 b1 n = 0 then opE a2 b2 n else opE a1 b1 n
theorem btE_zero (a1 b1 a2 b2 n : Int) : btE a1 b1 a2 b2 n = 0 ↔ vsp a1 b1 n = true ∧ vsp a2 b2 n = true:=by
 unfold btE
 rw [← opE_zero,← opE_zero]
 split
 ·rename_i h; simp [h]
 ·rename_i h; simp [h]
/-- the ends as both tells them -/
structure Bt (a1 b1 a2 b2 n : Int) (x1 y1 x2 y2 : Nat) (q : Int) : Prop where
 err : q = btE a1 b1 a2 b2 n
 ok : q = 0 → Fl n x1 (keyOf a1 n) ∧ Fl n y1 (keyOf b1 n) ∧ Fl n x2 (keyOf a2 n) ∧ Fl n y2 (keyOf b2 n)
 no : q ≠ 0 → x1 = 0 ∧ y1 = 0 ∧ x2 = 0 ∧ y2 = 0
theorem vsp_num (a b n : Int) (h : vsp a b n = true) : isnum a n = true ∧ isnum b n = true ∧ keyOf a n ≤ keyOf b n ∧ keyOf a n ≠ (ifn n : Int) ∧ keyOf b n ≠ -(ifn n : Int):=by
 unfold vsp at h
 simp only [Bool.and_eq_true,decide_eq_true_eq] at h
 exact ⟨h.1.1.1.1,h.1.1.1.2,h.1.1.2,h.1.2,h.2⟩
theorem both_any (a1 b1 a2 b2 n : Int) (r1 : RB a1) (r2 : RB b1) (r3 : RB a2) (r4 : RB b2) : ∃ x1 y1 x2 y2 q,Bt a1 b1 a2 b2 n x1 y1 x2 y2 q ∧ ∀ w,Calls Tryz.prog 67 #[sp2 a1 b1,sp2 a2 b2,.int .i64 n] w fun e w' => e = .returned (.tuple #[fv2 x1 y1,fv2 x2 y2,.int .i64 q]) ∧ Kept w w':=by
 obtain ⟨x1,y1,f1,g1,-⟩:=opV_form a1 b1 n
 obtain ⟨x2,y2,f2,g2,-⟩:=opV_form a2 b2 n
 have KO : Hid (∀ u a b x y q,(a = a1 ∧ b = b1 ∧ x = x1 ∧ y = y1 ∧ q = opE a1 b1 n ∨ a = a2 ∧ b = b2 ∧ x = x2 ∧ y = y2 ∧ q = opE a2 b2 n) → Calls Tryz.prog 73 #[sp2 a b,.int .i64 n] u fun e w' => e = .returned (.tuple #[fv2 x y,.int .i64 q]) ∧ Kept u w'):=fun u a b x y q h => by
  rcases h with ⟨rfl,rfl,rfl,rfl,rfl⟩ | ⟨rfl,rfl,rfl,rfl,rfl⟩
  ·rw [← f1]; exact opened_any _ _ n r1 r2 u
  ·rw [← f2]; exact opened_any _ _ n r3 r4 u
 by_cases h : opE a1 b1 n = 0 ∧ opE a2 b2 n = 0
 ·have hv1:=(opE_zero _ _ _).1 h.1
  have hv2:=(opE_zero _ _ _).1 h.2
  obtain ⟨i1,i2,-⟩:=vsp_num _ _ _ hv1
  obtain ⟨i3,i4,-⟩:=vsp_num _ _ _ hv2
  refine ⟨x1,y1,x2,y2,0,⟨((btE_zero _ _ _ _ _).2 ⟨hv1,hv2⟩).symm,fun _ => ?_,fun h => absurd rfl h⟩,fun w => ?_⟩
  ·rw [(g1 hv1).1,(g1 hv1).2,(g2 hv2).1,(g2 hv2).2]
   exact ⟨Fl.flv i1 r1.1 r1.2,Fl.flv i2 r2.1 r2.2,Fl.flv i3 r3.1 r3.2,Fl.flv i4 r4.1 r4.2⟩
  ·have:=both_walk a1 b1 a2 b2 n x1 y1 x2 y2 _ _ w KO
   rw [if_pos h] at this
   exact this
 ·refine ⟨0,0,0,0,btE a1 b1 a2 b2 n,⟨rfl,fun g => ?_,fun _ => ⟨rfl,rfl,rfl,rfl⟩⟩,fun w => ?_⟩
  ·have:=(btE_zero _ _ _ _ _).1 g
   exact absurd ⟨(opE_zero _ _ _).2 this.1,(opE_zero _ _ _).2 this.2⟩ h
  ·have:=both_walk a1 b1 a2 b2 n x1 y1 x2 y2 _ _ w KO
   rw [if_neg h] at this
   exact this
theorem Bt.fl {a1 b1 a2 b2 n : Int} {x1 y1 x2 y2 : Nat} {q : Int} (h : Bt a1 b1 a2 b2 n x1 y1 x2 y2 q) : ∃ (m : Int) (k1 j1 k2 j2 : Int),Fl m x1 k1 ∧ Fl m y1 j1 ∧ Fl m x2 k2 ∧ Fl m y2 j2 ∧ (q = 0 → m = n ∧ k1 = keyOf a1 n ∧ j1 = keyOf b1 n ∧ k2 = keyOf a2 n ∧ j2 = keyOf b2 n):=by
 by_cases hq : q = 0
 ·obtain ⟨f1,f2,f3,f4⟩:=h.ok hq
  exact ⟨n,_,_,_,_,f1,f2,f3,f4,fun _ => ⟨rfl,rfl,rfl,rfl,rfl⟩⟩
 ·obtain ⟨rfl,rfl,rfl,rfl⟩:=h.no hq
  have z:=Fl.zero 64 (.inl rfl)
  exact ⟨64,0,0,0,0,z,z,z,z,fun g => absurd g hq⟩
theorem holds5_walk (lo hi b n : Int) (x y f : Nat) (q r : Int) (hr06 : q = 0 → r = 0 ∨ r = 6) (t : Bool) (w : World)
  (KO : Hid (∀ u,Calls Tryz.prog 73 #[sp2 lo hi,.int .i64 n] u fun e w' => e = .returned (.tuple #[fv2 x y,.int .i64 q]) ∧ Kept u w'))
  (KN : Hid (∀ u,Calls Tryz.prog 90 #[.int .i64 b,.int .i64 n] u fun e w' => e = .returned (.tuple #[.float .f64 f,.int .i64 r]) ∧ Kept u w'))
  (KP : Hid (∀ u,Calls Tryz.prog 77 #[.float .f64 f] u fun e w' => e = .returned (fv2 f f) ∧ Kept u w'))
  (KH : Hid (q = 0 → r = 0 → ∀ u,Calls Tryz.prog 76 #[fv2 x y,fv2 f f] u fun e w' => e = .returned (.bool t) ∧ Kept u w')) :
  Calls Tryz.prog 34 #[sp2 lo hi,.int .i64 b,.int .i64 n] w fun e w' => e = .returned (.tuple #[.bool (decide (q = 0) && decide (r = 0) && t),.int .i64 (if q = 0 then r else q)]) ∧ Kept w w':=by
 have hSF:=sto_f
 by_cases hq : q = 0
 ·have hr:=hr06 hq
  have KH2:=KH.out hq
  clear hr06 KH
  subst hq
  rw [if_pos rfl]
  have KH : Hid (r = 0 → ∀ u,Calls Tryz.prog 76 #[fv2 x y,fv2 f f] u fun e w' => e = .returned (.bool t) ∧ Kept u w'):=KH2
  clear KH2
  have HR : Hid (r = 0 ∨ r = 6):=hr
  clear hr
  go_enter Tryz.func34,Tryz.ntmps34
  go_upto_region 5 with (first | (go_at_call 73; refine (KO.out _).mono ?_; rintro e w1 ⟨rfl,k1⟩) | (go_at_call 90; refine (KN.out _).mono ?_; rintro e w2 ⟨rfl,k2⟩))
  have kw : Kept w w2:=((((Kept.refl w).alloc _ _).trans k1).alloc _ _).trans k2
  have hC:=P2.newk k2
  have hd0 : Kept w2 w2.drew:=(Kept.refl _).drew
  obtain ⟨B,hB⟩ : ∃ B,B = w1.heap.size:=⟨_,rfl⟩
  rw [← hB] at hC ⊢
  clear hB k1 KO KN
  have HS : Hid (∀ u,Kept w2 u → Kept w2 u ∧ u.cell? ⟨B,0,none⟩ = some (.float .f64 x) ∧ u.cell? ⟨B,1,none⟩ = some (.float .f64 y)):=fun u k => ⟨k,(hC.kept k).c0,(hC.kept k).c1⟩
  have KP' : Hid (∀ u,Kept w2 u → Calls Tryz.prog 77 #[.float .f64 f] u fun e w' => e = .returned (fv2 f f) ∧ Kept w2 w'):=fun u k => by
   refine (KP.out u).mono ?_
   rintro e w' ⟨rfl,k'⟩
   exact ⟨rfl,k.trans k'⟩
  rcases HR.out with rfl | rfl
  ·have KH' : Hid (∀ u,Kept w2 u → Calls Tryz.prog 76 #[fv2 x y,fv2 f f] u fun e w' => e = .returned (.bool t) ∧ Kept w2 w'):=fun u k => by
    refine (KH.out (by trivial) u).mono ?_
    rintro e w' ⟨rfl,k'⟩
    exact ⟨rfl,k.trans k'⟩
   clear KH KP
   go_region_held (fun u => Kept w2 u ∧ u.cell? ⟨B,0,none⟩ = some (.float .f64 x) ∧ u.cell? ⟨B,1,none⟩ = some (.float .f64 y)) (first | assumption | exact HS.out _ hd0 | exact HS.out _ (by assumption)) (first | (go_at_call 77; refine (KP'.out _ (by assumption)).mono ?_; rintro e w3 ⟨rfl,k3⟩) | (go_at_call 76; refine (KH'.out _ (by assumption)).mono ?_; rintro e w4 ⟨rfl,k4⟩))
   go_wp2_with fail
   exact bodyPost_ret (v:=.tuple #[.bool t,.int .i64 0]) (by simp [results,Tryz.results34,go_sem]) rfl ⟨by simp,kw.trans k4⟩
  ·clear KH KP
   go_quiet (fail)
   go_wp2_with fail
   exact bodyPost_ret (v:=.tuple #[.bool false,.int .i64 6]) (by simp [results,Tryz.results34,go_sem]) rfl ⟨by simp,by first | exact kw.trans hd0 | exact kw.drewN _ | exact kw⟩
 ·have hqb : (q != 0) = true:=by simpa using hq
  rw [if_neg hq,decide_eq_false hq]
  go_enter Tryz.func34,Tryz.ntmps34
  go_wp2_with (first | (go_at_call 73; refine (KO.out _).mono ?_; rintro e w1 ⟨rfl,k1⟩))
  exact bodyPost_ret (v:=.tuple #[.bool false,.int .i64 q]) (by simp [results,Tryz.results34,go_sem]) rfl ⟨rfl,(((Kept.refl w).alloc _ _).trans k1).alloc _ _⟩
theorem holds5_any (lo hi b n : Int) (s1 : RB lo) (s2 : RB hi) (s3 : RB b) (w : World) : Calls Tryz.prog 34 #[sp2 lo hi,.int .i64 b,.int .i64 n] w fun e w' => e = .returned (.tuple #[.bool (vsp lo hi n && fin b n && decide (keyOf lo n ≤ keyOf b n ∧ keyOf b n ≤ keyOf hi n)),.int .i64 (if opE lo hi n = 0 then nmE b n else opE lo hi n)]) ∧ Kept w w':=by
 obtain ⟨x,y,hf,g1,-⟩:=opV_form lo hi n
 have KO : Hid (∀ u,Calls Tryz.prog 73 #[sp2 lo hi,.int .i64 n] u fun e w' => e = .returned (.tuple #[fv2 x y,.int .i64 (opE lo hi n)]) ∧ Kept u w'):=fun u => by
  rw [← hf]
  exact opened_any lo hi n s1 s2 u
 refine (holds5_walk lo hi b n x y (nmF b n) (opE lo hi n) (nmE b n) (fun hq => by
  obtain ⟨i1,-⟩:=vsp_num _ _ _ ((opE_zero _ _ _).1 hq)
  unfold nmE
  rw [if_pos (isnum_wid _ _ i1)]
  split <;> simp) (decide (keyOf lo n ≤ keyOf b n ∧ keyOf b n ≤ keyOf hi n)) w KO (fun u => number_any b n s3 u) (fun u => point_any _ u) (fun hq hr u => ?_)).mono ?_
 ·have hv:=(opE_zero _ _ _).1 hq
  obtain ⟨i1,i2,-⟩:=vsp_num _ _ _ hv
  have hn:=isnum_wid _ _ i1
  have hfin : fin b n = true:=by
   unfold nmE at hr
   rw [if_pos hn] at hr
   split at hr
   ·assumption
   ·cases hr
  have hib : isnum b n = true:=by
   unfold fin at hfin
   unfold isnum
   rw [decide_eq_true_eq] at hfin ⊢
   exact ⟨hn,by omega⟩
  have e : nmF b n = flv b n:=by unfold nmF; rw [if_pos hfin]
  rw [e,(g1 hv).1,(g1 hv).2]
  have f:=Fl.flv hib s3.1 s3.2
  exact holds_any n _ _ _ _ _ _ _ _ (Fl.flv i1 s1.1 s1.2) (Fl.flv i2 s2.1 s2.2) f f u
 ·rintro e w' ⟨rfl,k⟩
  refine ⟨?_,k⟩
  have e1 : decide (opE lo hi n = 0) = vsp lo hi n:=by
   rw [Bool.eq_iff_iff,decide_eq_true_eq]
   exact opE_zero _ _ _
  have e2 : vsp lo hi n = true → decide (nmE b n = 0) = fin b n:=fun hv => by
   obtain ⟨i1,-⟩:=vsp_num _ _ _ hv
   unfold nmE
   rw [if_pos (isnum_wid _ _ i1)]
   cases fin b n <;> simp
  rw [e1]
  by_cases hv : vsp lo hi n = true
  ·rw [e2 hv]
  ·have : vsp lo hi n = false:=by simpa using hv
   rw [this]
   simp
end Go.Proofs.YtdhimkpfnhoagaaGreatDoor
namespace Go.Proofs.YtdhimkpfnhoagaaGreatDoor
open Go.ChangeShapes Go.WideShapes Go.ChangeAt Go.RowKit
set_option linter.unusedVariables false
set_option linter.unusedSimpArgs false
set_option maxHeartbeats 16000000
set_option maxRecDepth 100000
/- what a sum that is being made is,cell by cell: what it tells,its width,its columns,from where to where -/
def C0 : List Int:=List.replicate 141 0
theorem Grw.drew {g : Nat} {a c : World} (h : Grw g a c) : Grw g a c.drew:=by
 have k : Kept c c.drew:=(Kept.refl c).drew
 exact ⟨⟨k.below.os.trans h.grown.os,k.below.tape.trans h.grown.tape,k.below.output.trans h.grown.output,Nat.le_trans h.grown.size k.below.size,fun i hi hn => (k.below.block i (Nat.lt_of_lt_of_le hi h.grown.size)).trans (h.grown.block i hi hn)⟩,fun x => (k.frozen x).trans (h.frozen x)⟩
def ws (M0 M1 M2 : Int) : Nat → Int
 | 0 => 0
 | 1 => M0
 | 2 => M0 + M1 * 1073741824
 | _ => M0 + M1 * 1073741824 + M2 * 1152921504606846976
def mv (M0 M1 M2 : Int) : Nat → Int
 | 0 => M0
 | 1 => M1
 | _ => M2
/- the columns behind so many steps -/
structure Ly (C C' : List Int) (f st : Nat) (V : Int) : Prop where
 len : C'.length = 141
 val : cv C' = cv C + V * 2 ^ (30 * f)
 near : ∀ k,-((st : Int) * 2147483648) ≤ C'.getD k 0 - C.getD k 0 ∧ C'.getD k 0 - C.getD k 0 ≤ (st : Int) * 2147483648
 out : ∀ k,(k < f ∨ f + 5 ≤ k) → C'.getD k 0 = C.getD k 0
theorem blk_lt {w : World} {p : Nat} {o : Obj} (h : w.heap[p]? = some o) : p < w.heap.size:=by
 apply Decidable.byContradiction
 intro g
 rw [Array.getElem?_eq_none (by omega)] at h
 cases h
theorem Ly.step {C C' : List Int} {f st : Nat} {V : Int} (h : Ly C C' f st V) (r : Nat) (hr : r + 1 < 5) (hf : f + 5 ≤ 141) (P : Int) (hP : -1152921504606846976 ≤ P ∧ P < 1152921504606846976) : Ly C ((C'.set (f + r) (C'.getD (f + r) 0 + P % 1073741824)).set (f + r + 1) ((C'.set (f + r) (C'.getD (f + r) 0 + P % 1073741824)).getD (f + r + 1) 0 + P / 1073741824)) f (st + 1) (V + P * 2 ^ (30 * r)):=by
 have hl:=h.len
 refine ⟨by simp [hl],?_,fun k => ?_,fun k hk => ?_⟩
 ·rw [cv_set _ _ (by simp; omega),cv_set _ _ (by omega),h.val,Int.add_mul,Int.mul_assoc P,← Int.pow_add,show 30 * r + 30 * f = 30 * (f + r) by omega,pow30i (f + r)]
  have e : P % 1073741824 + 1073741824 * (P / 1073741824) = P:=by omega
  generalize (2 : Int) ^ (30 * (f + r)) = Z at *
  have : P * Z = (P % 1073741824) * Z + P / 1073741824 * (1073741824 * Z):=by
   rw [← Int.mul_assoc,← Int.add_mul,Int.mul_comm (P / 1073741824),e]
  omega
 ·have h1:=h.near k
  rw [getD_set _ _ _ _ (by simp; omega),getD_set _ _ _ _ (by omega),getD_set _ _ _ _ (by omega)]
  have e1:=h.near (f + r)
  have e2:=h.near (f + r + 1)
  by_cases k1 : f + r + 1 = k
  ·rw [if_pos k1,if_neg (by omega)]
   subst k1
   push_cast
   omega
  ·rw [if_neg k1]
   by_cases k2 : f + r = k
   ·rw [if_pos k2]
    subst k2
    push_cast
    omega
   ·rw [if_neg k2]
    push_cast
    omega
 ·rw [getD_set _ _ _ _ (by simp; omega),if_neg (by omega),getD_set _ _ _ _ (by omega),if_neg (by omega)]
  exact h.out k hk
theorem wrap64_mask (z : Int) : bits .and .i64 (wrap64 z) 1073741823 = z % 1073741824:=by
 rw [mask30]
 unfold wrap64
 omega
theorem div_shift (a : Int) (s t : Nat) (h : s ≤ t) : a / 2 ^ (t - s) = a * 2 ^ s / 2 ^ t:=by
 have e : (2 : Int) ^ t = 2 ^ (t - s) * 2 ^ s:=by rw [← Int.pow_add]; congr 1; omega
 rw [e,Int.mul_ediv_mul_of_pos_left _ _ (Int.pow_pos (by decide))]
theorem moved_sum (a : Int) (s : Nat) (hs : s < 30) (M0 M1 M2 : Int) (h0 : bits .and .i64 (wrap64 (a * 2 ^ s)) 1073741823 = M0) (h1 : bits .and .i64 (a / 2 ^ (30 - s)) 1073741823 = M1) (h2 : a / 2 ^ (60 - s) = M2) : ws M0 M1 M2 3 = a * 2 ^ s:=by
 rw [wrap64_mask] at h0
 rw [mask30,div_shift a s 30 (by omega)] at h1
 rw [div_shift a s 60 (by omega)] at h2
 generalize a * 2 ^ s = Z at *
 show M0 + M1 * 1073741824 + M2 * 1152921504606846976 = Z
 rw [show (2 : Int) ^ 30 = 1073741824 from rfl] at h1
 rw [show (2 : Int) ^ 60 = 1152921504606846976 from rfl] at h2
 omega
theorem moved_bound (a : Int) (ha : 0 < a ∧ a < 9007199254740992) (s : Nat) (hs : s < 30) (M0 M1 M2 : Int) (h0 : bits .and .i64 (wrap64 (a * 2 ^ s)) 1073741823 = M0) (h1 : bits .and .i64 (a / 2 ^ (30 - s)) 1073741823 = M1) (h2 : a / 2 ^ (60 - s) = M2) : ∀ i,0 ≤ mv M0 M1 M2 i ∧ mv M0 M1 M2 i < 1073741824:=by
 rw [wrap64_mask] at h0
 rw [mask30] at h1
 have e : (2 : Int) ^ (60 - s) = 2 ^ (29 - s) * 2147483648:=by
  rw [show (2147483648 : Int) = 2 ^ 31 from rfl,← Int.pow_add]; congr 1; omega
 have hp : (0 : Int) < 2 ^ (29 - s):=Int.pow_pos (by decide)
 have h3 : a / 2 ^ (60 - s) ≤ a / 2147483648:=by
  rw [e,Int.mul_comm,← Int.ediv_ediv_of_nonneg (by decide)]
  exact Int.ediv_le_self _ (Int.ediv_nonneg (by omega) (by decide))
 have h4 : 0 ≤ a / 2 ^ (60 - s):=Int.ediv_nonneg (by omega) (by rw [e]; omega)
 intro i
 match i with
 | 0 => show 0 ≤ M0 ∧ M0 < 1073741824; omega
 | 1 => show 0 ≤ M1 ∧ M1 < 1073741824; omega
 | i + 2 => show 0 ≤ M2 ∧ M2 < 1073741824; omega
/- a finite float of the width,by its parts -/
theorem Own.setCells {g cap : Nat} : ∀ (vs A B : List Int) (w : World),Own w g cap (A ++ B) → vs.length ≤ B.length → Own (w.setCells g A.length (vs.map (Value.int .i64))) g cap (A ++ vs ++ B.drop vs.length)
 | [],A,B,w,h,_ => by simpa [World.setCells] using h
 | v :: r,A,[],w,h,hl => by simp at hl
 | v :: r,A,b :: B,w,h,hl => by
  have h1:=h.set A.length v
  have e : (A ++ b :: B).set A.length v = (A ++ [v]) ++ B:=by simp
  rw [e] at h1
  have:=Own.setCells r (A ++ [v]) B _ h1 (by simpa using hl)
  simpa [World.setCells] using this
theorem cv_near : ∀ (C : List Int),(∀ j,-9223372036854775807 ≤ C.getD j 0 ∧ C.getD j 0 ≤ 9223372036854775807) → -(2 : Int) ^ 34 * ((2 : Int) ^ (30 * C.length) - 1) ≤ cv C ∧ cv C ≤ (2 : Int) ^ 34 * ((2 : Int) ^ (30 * C.length) - 1)
 | [],_ => by simp [cv]
 | c :: r,h => by
  have h0:=h 0
  have ih:=cv_near r (fun j => by simpa using h (j + 1))
  simp only [List.getD_cons_zero] at h0
  rw [List.length_cons,Nat.mul_add,Int.pow_add,cv]
  obtain ⟨P,hP⟩ : ∃ P,P = (2 : Int) ^ (30 * r.length):=⟨_,rfl⟩
  rw [← hP] at ih ⊢
  generalize cv r = s at *
  omega
theorem cv_noughts : ∀ C : List Int,cv (C ++ [0,0]) = cv C
 | [] => by simp [cv]
 | c :: r => by rw [List.cons_append,cv,cv,cv_noughts r]
theorem columns1 (w : World) (hT : Tab w) (q1 q2 b o cap : Nat) (h1 : q1 < w.heap.size) (h2 : q2 < w.heap.size) (hb : b < w.heap.size) (C : List Int) (hl : C.length ≤ 141) (hC : ∀ j,-9223372036854775807 ≤ C.getD j 0 ∧ C.getD j 0 ≤ 9223372036854775807) (x : Int) (c1 : w.cell? ⟨q1,0,none⟩ = some (.slice (some ⟨b,o,none⟩) C.length cap)) (c2 : w.cell? ⟨q2,0,none⟩ = some (.int .i64 x)) (hr : ∀ j,j < C.length → w.cell? ⟨b,o + j,none⟩ = some (.int .i64 (C.getD j 0))) (r : Nm) (hRes : frm (decide (cv C < 0)) (cv C).natAbs x = some r) :
  Calls Tryz.prog 187 #[.pointer (some ⟨q1,0,none⟩),.pointer (some ⟨q2,0,none⟩)] w fun e w' => (∃ v,e = .returned v ∧ New w w' v r) ∧ Kept w w':=by
 have hK : Kept w (numW w):=(Kept.refl w).alloc _ _
 have q : IntKind.i64.wrap ((C.length : Int) + 2) = (C.length : Int) + 2:=by rw [wrap_i64]; omega
 have hmk : ∀ u,(Instr.makeSlice 24 (.int .i64 ((C.length : Int) + 2)) (.int .i64 ((C.length : Int) + 2))).run Tryz.prog u = .ok (.slice (some ⟨u.heap.size,0,none⟩) (C.length + 2) (C.length + 2)) (u.alloc (.cells (madeCells #[.int .i64 0] (C.length + 2)) 3)):=make_run (C.length + 2) (by omega)
 have e1:=(hK.below.cell (p:=⟨q1,0,none⟩) h1).trans c1
 have e2:=(hK.below.cell (p:=⟨q2,0,none⟩) h2).trans c2
 have hO:=own_made (C.length + 2) (by omega) (numW w)
 have hK2 : Kept (numW w) ((numW w).alloc (.cells (madeCells #[.int .i64 0] (C.length + 2)) 3)):=(Kept.refl _).alloc _ _
 have hK3 : Kept (numW w) (((numW w).alloc (.cells (madeCells #[.int .i64 0] (C.length + 2)) 3)).setCells (w.heap.size + 1) 0 (C.map (Value.int .i64))) :=
  hK2.grw (g:=w.heap.size + 1) (by simp) (Grw.setCells _ ((Kept.refl _).toGrw _) 0)
 have hO2 : Own (((numW w).alloc (.cells (madeCells #[.int .i64 0] (C.length + 2)) 3)).setCells (w.heap.size + 1) 0 (C.map (Value.int .i64))) (w.heap.size + 1) (C.length + 2) (C ++ [0,0]):=by
  have:=Own.setCells C [] (List.replicate (C.length + 2) 0) _ (by simpa using hO) (by simp)
  have e : (List.replicate (C.length + 2) (0 : Int)).drop C.length = [0,0]:=by rw [List.drop_replicate,Nat.add_sub_cancel_left]; rfl
  rw [e] at this
  simpa using this
 have hcp : (Builtin.copy_ #[24,24] 3 #[.slice (some ⟨w.heap.size + 1,0,none⟩) (C.length + 2) (C.length + 2),.slice (some ⟨b,o,none⟩) C.length cap]).run Tryz.prog ((numW w).alloc (.cells (madeCells #[.int .i64 0] (C.length + 2)) 3)) = .ok (goInt C.length) (((numW w).alloc (.cells (madeCells #[.int .i64 0] (C.length + 2)) 3)).setCells (w.heap.size + 1) 0 (C.map (Value.int .i64))):=by
  have:=run_copy_cells (P:=Tryz.prog) ((numW w).alloc (.cells (madeCells #[.int .i64 0] (C.length + 2)) 3)) 24 24 3 3 (w.heap.size + 1) 0 (C.length + 2) (C.length + 2) ⟨b,o,none⟩ C.length cap (C.map (Value.int .i64)) li_under (by kernel_rfl) (by simp) (fun j v hv => ?_) (fun j hj => ?_) (fun j hj => ?_) (by simp [Value.oneCell'])
  ·simpa using this
  ·rw [List.getElem?_map] at hv
   obtain ⟨c,hc,rfl⟩:=Option.map_eq_some_iff.mp hv
   have hj : j < C.length:=by
    rcases Nat.lt_or_ge j C.length with h | h
    ·exact h
    ·rw [List.getElem?_eq_none h] at hc; exact absurd hc (by simp)
   have:=(hK.trans hK2).below.cell (p:=⟨b,o + j,none⟩) hb
   have ea : (⟨b,o,none⟩ : Addr).add j = ⟨b,o + j,none⟩:=by simp [Addr.add]
   rw [ea]
   refine (this.trans (hr j hj)).trans ?_
   rw [List.getD_eq_getElem?_getD,hc]; rfl
  ·have:=hO.cell j (by simp at hj ⊢; omega)
   simp only [Nat.zero_add]
   have e : (numW w).heap.size = w.heap.size + 1:=by simp
   rw [e] at this
   rw [this]; rfl
  ·have e : (numW w).heap.size = w.heap.size + 1:=by simp
   rw [e] at hO
   exact hO.free _
 have KS : Hid (Calls Tryz.prog 112 #[.slice (some ⟨w.heap.size + 1,0,none⟩) (C.length + 2) (C.length + 2),.int .i64 x] (((numW w).alloc (.cells (madeCells #[.int .i64 0] (C.length + 2)) 3)).setCells (w.heap.size + 1) 0 (C.map (Value.int .i64))) fun e w' => ToldR (some r) (numW w) w' e ∧ Kept (numW w) w'):=by
  have hn:=cv_near C hC
  have e : cv (C ++ [0,0]) = cv C:=cv_noughts C
  have hP : (2 : Int) ^ (30 * (C.length + 2)) = (2 : Int) ^ (30 * C.length) * 2 ^ 60:=by rw [Nat.mul_add,Int.pow_add]
  have hp : 0 < (2 : Int) ^ (30 * C.length):=Int.pow_pos (by decide)
  refine settled_any _ (C.length + 2) (C.length + 2) (w.heap.size + 1) x (C ++ [0,0]) (by simp) (by omega) (fun j => ?_) (cv C) e (by rw [hP]; omega) (by rw [hP]; omega) (numW w) (hT.kept hK) hK3 (by simp) hO2 (some r) hRes
  rw [List.getD_eq_getElem?_getD,List.getElem?_append]
  split
  ·have:=hC j
   rwa [List.getD_eq_getElem?_getD] at this
  ·generalize j - C.length = i
   rcases i with _ | _ | i <;> simp
 clear c1 c2 hO hO2 hr
 have hs:=hK3.below.size
 go_enter Tryz.func187,Tryz.ntmps187
 have ez:=(hK3.below.cell (p:=⟨q2,0,none⟩) (by simp; omega)).trans e2
 obtain ⟨X,hX⟩ : ∃ X,X = (((numW w).alloc (.cells (madeCells #[.int .i64 0] (C.length + 2)) 3)).setCells (w.heap.size + 1) 0 (C.map (Value.int .i64))):=⟨_,rfl⟩
 rw [← hX] at hcp KS hK3 ez hs
 clear hX
 go_wp2_with (first | (go_at_call 112; refine KS.out.mono ?_; rintro e w1 ⟨⟨v,rfl,hN⟩,hk1⟩; obtain ⟨vn,va,vl,vc,vx,rfl⟩:=hN.shape; obtain ⟨f0,f1,f2,f3⟩:=num_cells hk1))
 have:=num_done hN hk1 (.bool vn) (.slice va vl vc) (.int .i64 vx)
 exact bodyPost_ret (v:=.agg #[.bool vn,.slice va vl vc,.int .i64 vx]) (by simp [results,Tryz.results187,go_sem,f0,f1,f2]) rfl ⟨⟨_,rfl,this.1⟩,this.2⟩
abbrev colW (w : World) (sv : Value) (x : Int) : World:=((w.alloc (.cells #[sv] 24)).alloc (.cells #[.int .i64 x] 3)).alloc nilNum
theorem colW_kept (w : World) (sv : Value) (x : Int) : Kept w (colW w sv x):=(((Kept.refl w).alloc _ _).alloc _ _).alloc _ _
theorem columns_ok (w : World) (hT : Tab w) (b o cap : Nat) (hb : b < w.heap.size) (C : List Int) (hl : C.length ≤ 141) (hC : ∀ j,-9223372036854775807 ≤ C.getD j 0 ∧ C.getD j 0 ≤ 9223372036854775807) (x : Int) (hr : ∀ j,j < C.length → w.cell? ⟨b,o + j,none⟩ = some (.int .i64 (C.getD j 0))) (r : Nm) (hRes : frm (decide (cv C < 0)) (cv C).natAbs x = some r) :
  Calls Tryz.prog 160 #[.slice (some ⟨b,o,none⟩) C.length cap,.int .i64 x] w fun e w' => ∃ v,e = .returned (.tuple #[v,.int .i64 0]) ∧ New w w' v r ∧ Kept w w':=by
 have hW:=colW_kept w (.slice (some ⟨b,o,none⟩) C.length cap) x
 have KT : Hid (Calls Tryz.prog 58 #[.func (.func 187) #[] #[.pointer (some ⟨w.heap.size,0,none⟩),.pointer (some ⟨w.heap.size + 1,0,none⟩)],.slice none 0 0] (colW w (.slice (some ⟨b,o,none⟩) C.length cap) x) fun e w' => ∃ v,e = .returned (.tuple #[v,.int .i64 0]) ∧ New (colW w (.slice (some ⟨b,o,none⟩) C.length cap) x) w' v r ∧ Kept (colW w (.slice (some ⟨b,o,none⟩) C.length cap) x) w'):=by
  refine told_ok 187 _ (fun w => call_of Tryz.func187 (by kernel_rfl) (by kernel_rfl) _ w) _ r _ (fun u k => allValid_0 u) (fun u k => ?_)
  have hs:=k.below.size
  simp only [colW,World.size_alloc] at hs
  exact columns1 u ((hT.kept hW).kept k) _ _ b o cap (by omega) (by omega) (by omega) C hl hC x ((k.below.cell (p:=⟨w.heap.size,0,none⟩) (by simp <;> omega)).trans (by simp [go_sem])) ((k.below.cell (p:=⟨w.heap.size + 1,0,none⟩) (by simp <;> omega)).trans (by simp [go_sem])) (fun j hj => ((hW.trans k).below.cell (p:=⟨b,o + j,none⟩) hb).trans (hr j hj)) r hRes
 have hmf : ∀ (fn : Fn) (first cap : Array Value) (w : World),(Instr.makeFunc fn first cap).run Tryz.prog w = .ok (.func fn first cap) w:=fun _ _ _ _ => rfl
 clear hr hT hRes hC hl
 generalize C.length = n at *
 go_enter Tryz.func160,Tryz.ntmps160
 go_wp2_with (first | (go_at_call 58; refine KT.out.mono ?_; rintro e w1 ⟨v,rfl,hN,hk1⟩; obtain ⟨vn,va,vl,vc,vx,rfl⟩:=hN.shape; obtain ⟨f0,f1,f2,f3⟩:=res_cells (w.heap.size + 2) (by simp) hk1 (by simp [go_sem]) (by simp [go_sem]) (by simp [go_sem]) (fun o => by simp [go_sem])))
 have:=res_done (w.heap.size + 2) (by omega) (by simp) hW hN hk1 (.bool vn) (.slice va vl vc) (.int .i64 vx)
 refine bodyPost_ret (v:=.tuple #[.agg #[.bool vn,.slice va vl vc,.int .i64 vx],.int .i64 0]) (by simp [results,Tryz.results160,go_sem,f0,f1,f2]) rfl ⟨_,rfl,this.1,this.2⟩
end Go.Proofs.YtdhimkpfnhoagaaGreatDoor
